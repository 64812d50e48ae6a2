/- At, Set and their kin of the reference; the statement on them. -/
import Derived.Test.YteaaikmejacpaaaGreatDoorS24
import Derived.Deep.Cut
/- Tensors: Vals. -/
namespace Go.Proofs.YteaaikmejacpaaaGreatDoor.Te
open Go.ChangeShapes Go.WideShapes Go.ChangeAt Go.RowKit
open Fx Va Sh
set_option maxRecDepth 8000
set_option linter.unusedVariables false
set_option linter.unusedSimpArgs false

theorem vals_ext {vs ws : List (Int × Int)} {n : Nat} (h1 : vs.length = n) (h2 : ws.length = n) (h : ∀ j, j < n -> vs.getD j (0, 0) = ws.getD j (0, 0)) : vs = ws := by
 refine List.ext_getElem (by rw [h1, h2]) fun j a b => ?_
 have hh := h j (by omega)
 rw [List.getD_eq_getElem?_getD, List.getElem?_eq_getElem a, List.getD_eq_getElem?_getD, List.getElem?_eq_getElem b] at hh
 exact hh
set_option maxRecDepth 100000 in
set_option maxHeartbeats 2000000 in
theorem bvals (q r : Option Addr) (vs ws : List (Int × Int)) (d e : Nat) (w : World) (hm : vs.length <= maxLen) (hk : ws.length <= maxLen) (RA : Hid (SlV w q vs)) (RB : Hid (SlV w r ws)) :
  Calls Tryz.prog 36 #[.slice q vs.length d, .slice r ws.length e] w fun e w' => e = .returned (.bool (decide (vs = ws))) /\ ∃ k, w' = w.drewN k := by
 unfold maxLen at hm hk
 by_cases hl : vs.length = ws.length
 ·obtain ⟨n, hn⟩ : ∃ n, vs.length = n := ⟨_, rfl⟩
  have hnm : ws.length = n := by omega
  have HN := Lib.hid hn
  have HM := Lib.hid hnm
  rw [hn] at hm ⊢
  rw [hnm]
  clear hn hnm hl hk
  go_enter Tryz.func36, Tryz.ntmps36
  go_wp2
  go_loopw [5] (fun i wr => ∃ k : Nat, i = .int .i64 k /\ k <= n /\ Hid (∀ j, j < k -> vs.getD j (0, 0) = ws.getD j (0, 0)) /\ ∃ m, wr = w.drewN m) (fun i _ => n - (intOf i).toNat)
  case atStart => exact ⟨0, rfl, by omega, Lib.hid fun j hj => by omega, 0, rfl⟩
  case round =>
   obtain ⟨k, rfl, hk, hL, m, rfl⟩ := hrel
   by_cases hlt : k < n
   ·obtain ⟨b, o, rfl, v0, v1⟩ := RA.out k (by rw [HN.out]; exact hlt)
    obtain ⟨b', o', rfl, u0, u1⟩ := RB.out k (by rw [HM.out]; exact hlt)
    obtain ⟨⟨x, x'⟩, hX⟩ : ∃ x, vs.getD k (0, 0) = x := ⟨_, rfl⟩
    obtain ⟨⟨y, y'⟩, hY⟩ : ∃ y, ws.getD k (0, 0) = y := ⟨_, rfl⟩
    rw [hX] at v0 v1
    rw [hY] at u0 u1
    dsimp only at v0 v1 u0 u1
    have HX := Lib.hid hX
    have HY := Lib.hid hY
    have mi : (0 : Int) <= k := by omega
    have mi2 : (k : Int) < n := by omega
    clear hX hY
    by_cases h1 : x = y
    ·by_cases h2 : x' = y'
     ·subst h1 h2
      go_wp2
      go_quiet (fail)
      go_wp2
      go_roundw
      case rel => exact ⟨k + 1, by go_num, by omega, Lib.hid fun j hj => by
       rcases (by omega : j < k \/ j = k) with h | rfl
       ·exact hL.out j h
       ·rw [HX.out, HY.out], m + nq, by first | rfl | rw [World.drewN_drewN]⟩
      case measure => simp [intOf]; omega
     ·subst h1
      have g1 : (x' == y') = false := by simpa using h2
      have H2 := Lib.hid h2
      clear h2
      go_wp2
      go_quiet (fail)
      go_wp2
      go_ret
      refine ⟨?_, m + nq, by first | rfl | rw [World.drewN_drewN]⟩
      refine ret_bool (decide_eq_false fun h => ?_).symm
      have h3 := HX.out
      rw [h, HY.out] at h3
      exact H2.out (congrArg Prod.snd h3).symm
    ·have g1 : (x == y) = false := by simpa using h1
     have H2 := Lib.hid h1
     clear h1
     go_wp2
     go_quiet (fail)
     go_wp2
     go_ret
     refine ⟨?_, m + nq, by first | rfl | rw [World.drewN_drewN]⟩
     refine ret_bool (decide_eq_false fun h => ?_).symm
     have h3 := HX.out
     rw [h, HY.out] at h3
     exact H2.out (congrArg Prod.fst h3).symm
   ·go_wp2
    go_ret
    refine ⟨?_, m, rfl⟩
    refine ret_bool (decide_eq_true ?_).symm
    exact vals_ext HN.out HM.out fun j hj => hL.out j (by omega)
 ·have k1 : ((vs.length : Int) != ws.length) = true := by simp <;> omega
  have k2 : (vs.length != ws.length) = true := by simpa using hl
  have k3 : (vs.length == ws.length) = false := by simpa using hl
  rw [decide_eq_false (fun h => hl (by rw [h]))]
  have HL := Lib.hid hl
  clear hl
  go_enter Tryz.func36, Tryz.ntmps36
  go_wp2
  go_ret
  exact ⟨rfl, 0, rfl⟩
end Go.Proofs.YteaaikmejacpaaaGreatDoor.Te

/- Tensors: Offset of the reference. -/
namespace Go.Proofs.YteaaikmejacpaaaGreatDoor.Te
open Go.ChangeShapes Go.WideShapes Go.ChangeAt Go.RowKit
open Fx Va Sh
set_option maxRecDepth 8000
set_option linter.unusedVariables false
set_option linter.unusedSimpArgs false

theorem drop_consI {l : List Int} {j : Nat} (h : j < l.length) : l.drop j = l.getD j 0 :: l.drop (j + 1) := by
 rw [List.drop_eq_getElem_cons h, List.getD_eq_getElem?_getD, List.getElem?_eq_getElem h]; rfl
theorem low_drop {zs : List Int} (h : zs.any low = false) (j : Nat) : (zs.drop j).any low = false := by
 rw [List.any_eq_false] at h ⊢
 exact fun x hx => h x (List.mem_of_mem_drop hx)
theorem of_next {zs xs : List Int} {A N : Int} {j : Nat} (hlow : zs.any low = false) (hl : xs.length = zs.length) (hj : j < zs.length) (hA : 0 <= A) (h : of A (zs.drop j) (xs.drop j) = some N) : of (A * zs.getD j 0 + xs.getD j 0) (zs.drop (j + 1)) (xs.drop (j + 1)) = some N /\ 0 <= xs.getD j 0 /\ 0 <= A * zs.getD j 0 /\ A * zs.getD j 0 + xs.getD j 0 <= N := by
 rw [drop_consI hj, drop_consI (l := xs) (by omega)] at h
 by_cases c : 0 <= xs.getD j 0 /\ xs.getD j 0 < zs.getD j 0
 ·rw [of_go c] at h
  have hz : 0 <= A * zs.getD j 0 := Int.mul_nonneg hA (by omega)
  obtain ⟨a1, a2, a3⟩ := of_bd _ _ _ N (low_drop hlow (j + 1)) (by simp; omega) h (by omega)
  refine ⟨h, c.1, hz, ?_⟩
  have := Int.mul_le_mul_of_nonneg_left a3 (show 0 <= A * zs.getD j 0 + xs.getD j 0 by omega)
  rw [Int.mul_one] at this
  omega
 ·rw [of_none c] at h; cases h
theorem of_all : ∀ (zs xs : List Int) (S : Int), xs.length = zs.length -> (∀ j, j < zs.length -> 0 <= xs.getD j 0 /\ xs.getD j 0 < zs.getD j 0) -> ∃ n, of S zs xs = some n
 | [], [], S, _, _ => ⟨S, rfl⟩
 | [], _ :: _, _, h, _ => absurd h (by simp)
 | _ :: _, [], _, h, _ => absurd h (by simp)
 | z :: zs, x :: xs, S, h, hh => by
  rw [of_go (show 0 <= x /\ x < z from hh 0 (by simp))]
  exact of_all zs xs _ (by simpa using h) fun j hj => hh (j + 1) (by simpa using hj)
theorem of_out : ∀ (zs xs : List Int) (S : Int) (j : Nat), xs.length = zs.length -> j < zs.length -> ¬ (0 <= xs.getD j 0 /\ xs.getD j 0 < zs.getD j 0) -> of S zs xs = none
 | [], _, _, _, _, h, _ => absurd h (by simp)
 | _ :: _, [], _, _, h, _, _ => absurd h (by simp)
 | z :: zs, x :: xs, S, 0, _, _, hh => of_none (show ¬ (0 <= x /\ x < z) from hh)
 | z :: zs, x :: xs, S, j + 1, h, hj, hh => by
  by_cases c : 0 <= x /\ x < z
  ·rw [of_go c]
   exact of_out zs xs _ j (by simpa using h) (by simpa using hj) hh
  ·exact of_none c

set_option maxRecDepth 100000 in
set_option maxHeartbeats 2000000 in
theorem troff (p x : Option Addr) (zs xs : List Int) (c e : Nat) (N : Int) (w : World) (hv : vE zs = 0) (hl : xs.length = zs.length) (ho : of 0 zs xs = some N) (RA : Hid (SlI w p zs)) (RX : Hid (SlI w x xs)) :
  Calls Tryz.prog 69 #[.slice p zs.length c, .slice x xs.length e] w fun e w' => e = .returned (.int .i64 N) /\ ∃ k, w' = w.drewN k := by
 obtain ⟨h6, hlow, -, hsp, -⟩ := valid_of hv
 have HST := Lib.hid fun (A : Int) (j : Nat) (hj : j < zs.length) (hA : 0 <= A) h => of_next (N := N) hlow hl hj hA h
 have hN : N <= 4096 := by
  obtain ⟨a1, a2, a3⟩ := of_bd zs xs 0 N hlow hl ho (Int.le_refl _)
  omega
 have HO0 := Lib.hid ho
 obtain ⟨n, hn⟩ : ∃ n, zs.length = n := ⟨_, rfl⟩
 have HN := Lib.hid hn
 have HM := Lib.hid (hl.trans hn)
 rw [hl, hn]
 rw [hn] at h6 HST
 clear hl hlow hsp hn ho hv
 go_enter Tryz.func69, Tryz.ntmps69
 go_wp2
 go_loopw [5, 6] (fun av iv wr => ∃ (k : Nat) (A : Int), av = .int .i64 A /\ iv = .int .i64 k /\ k <= n /\ 0 <= A /\ A <= 4096 /\ Hid (of A (zs.drop k) (xs.drop k) = some N) /\ ∃ m, wr = w.drewN m) (fun _ iv _ => n - (intOf iv).toNat)
 case atStart => exact ⟨0, 0, rfl, rfl, by omega, by omega, by omega, HO0, 0, rfl⟩
 case round =>
  obtain ⟨k, A, rfl, rfl, hk, hA0, hA4, HA, m, rfl⟩ := hrel
  by_cases hlt : k < n
  ·obtain ⟨b, o, rfl, hc⟩ := RA.out k (by rw [HN.out]; exact hlt)
   obtain ⟨b', o', rfl, hc'⟩ := RX.out k (by rw [HM.out]; exact hlt)
   obtain ⟨s1, s2, s3, s4⟩ := HST.out A k hlt hA0 HA.out
   obtain ⟨z, hz⟩ : ∃ z, zs.getD k 0 = z := ⟨_, rfl⟩
   obtain ⟨y, hy⟩ : ∃ y, xs.getD k 0 = y := ⟨_, rfl⟩
   rw [hz] at hc s1 s3 s4
   rw [hy] at hc' s1 s2 s4
   have S1 := Lib.hid s1
   obtain ⟨t, ht⟩ : ∃ t, A * z = t := ⟨_, rfl⟩
   rw [ht] at s3 s4
   have HT := Lib.hid ht
   have mi : (0 : Int) <= k := by omega
   have mi2 : (k : Int) < n := by omega
   have w1 : wrap64 t = t := w64 (by omega) (by omega)
   have w2 : wrap64 (t + y) = t + y := w64 (by omega) (by omega)
   clear hz hy s1
   go_wp2
   go_quiet (fail)
   go_wp2
   go_roundw
   case rel => exact ⟨k + 1, A * z + y, by rw [HT.out], by go_num, by omega, by rw [HT.out]; omega, by rw [HT.out]; omega, S1, m + nq, by first | rfl | rw [World.drewN_drewN]⟩
   case measure => simp [intOf]; omega
  ·have hA : A = N := by
    have h := HA.out
    rw [List.drop_of_length_le (by rw [HN.out]; omega), List.drop_of_length_le (by rw [HM.out]; omega)] at h
    exact Option.some.inj h
   subst hA
   go_wp2
   go_ret
   exact ⟨rfl, m, rfl⟩
end Go.Proofs.YteaaikmejacpaaaGreatDoor.Te

/- Tensors: index of the reference. -/
namespace Go.Proofs.YteaaikmejacpaaaGreatDoor.Te
open Go.ChangeShapes Go.WideShapes Go.ChangeAt Go.RowKit
open Fx Va Sh
set_option maxRecDepth 8000
set_option linter.unusedVariables false
set_option linter.unusedSimpArgs false

set_option maxRecDepth 100000 in
set_option maxHeartbeats 2000000 in
theorem rix_a (K B F R O : Int) (p : Option Addr) (zs : List Int) (c : Nat) (q : Option Addr) (vs : List (Int × Int)) (d : Nat) (w : World) (b0 : -9223372036854775808 <= B) (b1 : B <= 9223372036854775807) (hn : zs.length <= maxLen) (hm : vs.length <= maxLen) (RA : Hid (SlI w p zs)) (RB : Hid (SlV w q vs)) (x : Option Addr) (xs : List Int) (e : Nat) (hx : xs.length <= maxLen) (RX : Hid (SlI w x xs)) (ht : tE K B F R O zs vs ≠ 0) :
  Calls Tryz.prog 59 #[Tn K B F R O p zs.length c q vs.length d, .slice x xs.length e] w fun e w' => e = .returned (.tuple #[.int .i64 0, .int .i64 (tE K B F R O zs vs)]) /\ Below w.heap.size w w' := by
 have TV0 := fun w h1 h2 => rval K B F R O p zs c q vs d w hn hm h1 h2
 obtain ⟨E, hE⟩ : ∃ E, tE K B F R O zs vs = E := ⟨_, rfl⟩
 rw [hE] at TV0 ht ⊢
 have g1 : (E == 0) = false := by simpa using ht
 have g2 : (E != 0) = true := by simpa using ht
 obtain ⟨m, hmm⟩ : ∃ m, vs.length = m := ⟨_, rfl⟩
 rw [hmm] at TV0 ⊢
 have TV := Lib.hid TV0
 have B0 : Hid (Below w.heap.size w (w.alloc (Obj.cells #[Value.int .i64 K, Value.int .i64 B, Value.int .i64 F, Value.int .i64 R, Value.int .i64 O, Value.slice p zs.length c, Value.slice q m d] 27))) := Lib.hid ((Below.refl _ _).alloc (Nat.le_refl _) _)
 clear TV0 hmm hm
 clear hE ht
 unfold Tn at *
 go_enter Tryz.func59, Tryz.ntmps59
 go_wp2_with (go_at_call 21; (with_reducible refine (TV.out _ (Lib.hid (SlI.keep B0.out RA.out)) (Lib.hid (SlV.below RB.out B0.out))).mono ?_); rintro e w1 ⟨rfl, hb⟩; have KB := Lib.hid (B0.out.trans (hb.mono B0.out.size)); have c0 : w1.cell? ⟨w.heap.size, 0, none⟩ = some (.int .i64 K) := Rg.keep hb (by simp) (by go_cell); have c1 : w1.cell? ⟨w.heap.size, 1, none⟩ = some (.int .i64 B) := Rg.keep hb (by simp) (by go_cell); have c2 : w1.cell? ⟨w.heap.size, 2, none⟩ = some (.int .i64 F) := Rg.keep hb (by simp) (by go_cell); have c3 : w1.cell? ⟨w.heap.size, 3, none⟩ = some (.int .i64 R) := Rg.keep hb (by simp) (by go_cell); have c4 : w1.cell? ⟨w.heap.size, 4, none⟩ = some (.int .i64 O) := Rg.keep hb (by simp) (by go_cell); have c5 : w1.cell? ⟨w.heap.size, 5, none⟩ = some (.slice p zs.length c) := Rg.keep hb (by simp) (by go_cell); have c6 : w1.cell? ⟨w.heap.size, 6, none⟩ = some (.slice q m d) := Rg.keep hb (by simp) (by go_cell); clear hb)
 refine bodyPost_ret (v := .tuple #[.int .i64 0, .int .i64 E]) (by simp [results, Tryz.results59, go_sem]) rfl ⟨rfl, KB.out⟩

set_option maxRecDepth 100000 in
set_option maxHeartbeats 2000000 in
theorem rix_b (K B F R O : Int) (p : Option Addr) (zs : List Int) (c : Nat) (q : Option Addr) (vs : List (Int × Int)) (d : Nat) (w : World) (b0 : -9223372036854775808 <= B) (b1 : B <= 9223372036854775807) (hn : zs.length <= maxLen) (hm : vs.length <= maxLen) (RA : Hid (SlI w p zs)) (RB : Hid (SlV w q vs)) (x : Option Addr) (xs : List Int) (e : Nat) (hx : xs.length <= maxLen) (RX : Hid (SlI w x xs)) (ht : tE K B F R O zs vs = 0) (hl : xs.length ≠ zs.length) :
  Calls Tryz.prog 59 #[Tn K B F R O p zs.length c q vs.length d, .slice x xs.length e] w fun e w' => e = .returned (.tuple #[.int .i64 0, .int .i64 11]) /\ Below w.heap.size w w' := by
 have TV0 := fun w h1 h2 => rval K B F R O p zs c q vs d w hn hm h1 h2
 rw [ht] at TV0
 have g1 : ((xs.length : Int) == zs.length) = false := by rw [beq_eq_false_iff_ne]; omega
 have g2 : ((xs.length : Int) != zs.length) = true := by simp; omega
 obtain ⟨m, hmm⟩ : ∃ m, vs.length = m := ⟨_, rfl⟩
 rw [hmm] at TV0 ⊢
 have TV := Lib.hid TV0
 have B0 : Hid (Below w.heap.size w (w.alloc (Obj.cells #[Value.int .i64 K, Value.int .i64 B, Value.int .i64 F, Value.int .i64 R, Value.int .i64 O, Value.slice p zs.length c, Value.slice q m d] 27))) := Lib.hid ((Below.refl _ _).alloc (Nat.le_refl _) _)
 clear TV0 hmm hm
 clear ht hl
 unfold Tn at *
 go_enter Tryz.func59, Tryz.ntmps59
 go_wp2_with (go_at_call 21; (with_reducible refine (TV.out _ (Lib.hid (SlI.keep B0.out RA.out)) (Lib.hid (SlV.below RB.out B0.out))).mono ?_); rintro e w1 ⟨rfl, hb⟩; have KB := Lib.hid (B0.out.trans (hb.mono B0.out.size)); have c0 : w1.cell? ⟨w.heap.size, 0, none⟩ = some (.int .i64 K) := Rg.keep hb (by simp) (by go_cell); have c1 : w1.cell? ⟨w.heap.size, 1, none⟩ = some (.int .i64 B) := Rg.keep hb (by simp) (by go_cell); have c2 : w1.cell? ⟨w.heap.size, 2, none⟩ = some (.int .i64 F) := Rg.keep hb (by simp) (by go_cell); have c3 : w1.cell? ⟨w.heap.size, 3, none⟩ = some (.int .i64 R) := Rg.keep hb (by simp) (by go_cell); have c4 : w1.cell? ⟨w.heap.size, 4, none⟩ = some (.int .i64 O) := Rg.keep hb (by simp) (by go_cell); have c5 : w1.cell? ⟨w.heap.size, 5, none⟩ = some (.slice p zs.length c) := Rg.keep hb (by simp) (by go_cell); have c6 : w1.cell? ⟨w.heap.size, 6, none⟩ = some (.slice q m d) := Rg.keep hb (by simp) (by go_cell); clear hb)
 refine bodyPost_ret (v := .tuple #[.int .i64 0, .int .i64 11]) (by simp [results, Tryz.results59, go_sem]) rfl ⟨rfl, KB.out⟩

set_option maxRecDepth 100000 in
set_option maxHeartbeats 2000000 in
theorem rix_c (K B F R O : Int) (p : Option Addr) (zs : List Int) (c : Nat) (q : Option Addr) (vs : List (Int × Int)) (d : Nat) (w : World) (b0 : -9223372036854775808 <= B) (b1 : B <= 9223372036854775807) (hn : zs.length <= maxLen) (hm : vs.length <= maxLen) (RA : Hid (SlI w p zs)) (RB : Hid (SlV w q vs)) (x : Option Addr) (xs : List Int) (e : Nat) (hx : xs.length <= maxLen) (RX : Hid (SlI w x xs)) (ht : tE K B F R O zs vs = 0) (hl : xs.length = zs.length) :
  Calls Tryz.prog 59 #[Tn K B F R O p zs.length c q vs.length d, .slice x xs.length e] w fun e w' => e = .returned (.tuple #[.int .i64 (loc K B F R O zs vs xs).1, .int .i64 (loc K B F R O zs vs xs).2]) /\ Below w.heap.size w w' := by
 have TV0 := fun w h1 h2 => rval K B F R O p zs c q vs d w hn hm h1 h2
 rw [ht] at TV0
 obtain ⟨-, hv, -, -⟩ := tE_ok ht
 have hloc : loc K B F R O zs vs xs = match of 0 zs xs with | none => (0, 12) | some n => (n, 0) := by
  unfold loc
  rw [if_neg (by simpa using ht), if_neg (by simpa using hl), oA_ok hv hl]
  cases of 0 zs xs <;> rfl
 obtain ⟨r, hr⟩ : ∃ r, loc K B F R O zs vs xs = r := ⟨_, rfl⟩
 rw [hr] at hloc ⊢
 have HR := Lib.hid hloc
 have OF0 := fun N ho u h1 h2 => troff p x zs xs c e N u hv hl ho h1 h2
 have HALL := Lib.hid (of_all zs xs 0 hl)
 have HOUT := Lib.hid fun j hj h => of_out zs xs 0 j hl hj h
 obtain ⟨k, hk⟩ : ∃ k, zs.length = k := ⟨_, rfl⟩
 have HKK := Lib.hid hk
 have HXK := Lib.hid (hl.trans hk)
 rw [hk] at hl hn
 rw [hk] at TV0 HALL HOUT
 rw [hk, hl] at OF0
 rw [hk, hl]
 have OF := Lib.hid OF0
 obtain ⟨m, hmm⟩ : ∃ m, vs.length = m := ⟨_, rfl⟩
 rw [hmm] at TV0 ⊢
 have TV := Lib.hid TV0
 have B0 : Hid (Below w.heap.size w (w.alloc (Obj.cells #[Value.int .i64 K, Value.int .i64 B, Value.int .i64 F, Value.int .i64 R, Value.int .i64 O, Value.slice p k c, Value.slice q m d] 27))) := Lib.hid ((Below.refl _ _).alloc (Nat.le_refl _) _)
 clear TV0 hmm hm
 clear ht hk hl hr hloc hv OF0
 unfold maxLen at hn
 unfold Tn at *
 go_enter Tryz.func59, Tryz.ntmps59
 go_wp2_with (go_at_call 21; (with_reducible refine (TV.out _ (Lib.hid (SlI.keep B0.out RA.out)) (Lib.hid (SlV.below RB.out B0.out))).mono ?_); rintro e w1 ⟨rfl, hb⟩; have KB := Lib.hid (B0.out.trans (hb.mono B0.out.size)); have c0 : w1.cell? ⟨w.heap.size, 0, none⟩ = some (.int .i64 K) := Rg.keep hb (by simp) (by go_cell); have c1 : w1.cell? ⟨w.heap.size, 1, none⟩ = some (.int .i64 B) := Rg.keep hb (by simp) (by go_cell); have c2 : w1.cell? ⟨w.heap.size, 2, none⟩ = some (.int .i64 F) := Rg.keep hb (by simp) (by go_cell); have c3 : w1.cell? ⟨w.heap.size, 3, none⟩ = some (.int .i64 R) := Rg.keep hb (by simp) (by go_cell); have c4 : w1.cell? ⟨w.heap.size, 4, none⟩ = some (.int .i64 O) := Rg.keep hb (by simp) (by go_cell); have c5 : w1.cell? ⟨w.heap.size, 5, none⟩ = some (.slice p k c) := Rg.keep hb (by simp) (by go_cell); have c6 : w1.cell? ⟨w.heap.size, 6, none⟩ = some (.slice q m d) := Rg.keep hb (by simp) (by go_cell); clear hb)
 have RA1 := Lib.hid (SlI.keep KB.out RA.out)
 have RX1 := Lib.hid (SlI.keep KB.out RX.out)
 have lw0 : w.heap.size < w1.heap.size := World.block_lt_of_cell? _ _ c0
 go_loopw [7] (fun iv wr => ∃ j : Nat, iv = .int .i64 j /\ j <= k /\ Hid (∀ i, i < j -> 0 <= xs.getD i 0 /\ xs.getD i 0 < zs.getD i 0) /\ ∃ m, wr = w1.drewN m) (fun iv _ => k - (intOf iv).toNat)
 case atStart => exact ⟨0, rfl, Nat.zero_le _, Lib.hid fun i hi => by omega, 0, rfl⟩
 case round =>
  obtain ⟨j, rfl, hj, HL, mm, rfl⟩ := hrel
  by_cases hlt : j < k
  ·obtain ⟨b, o, hp, hc⟩ := RA1.out j (by rw [HKK.out]; exact hlt)
   obtain ⟨b', o', hp', hc'⟩ := RX1.out j (by rw [HXK.out]; exact hlt)
   subst hp hp'
   obtain ⟨z, hz⟩ : ∃ z, zs.getD j 0 = z := ⟨_, rfl⟩
   obtain ⟨y, hy⟩ : ∃ y, xs.getD j 0 = y := ⟨_, rfl⟩
   have HO := HOUT.out j hlt
   rw [hz] at hc HO
   rw [hy] at hc' HO
   have HZ := Lib.hid hz
   have HY := Lib.hid hy
   have HO := Lib.hid HO
   have mi : (0 : Int) <= j := by omega
   have mi2 : (j : Int) < k := by omega
   clear hz hy
   by_cases h0 : y < 0
   ·have g1 : decide (y < 0) = true := by simpa using h0
    have hR : r = (0, 12) := by rw [HR.out, HO.out (by omega)]
    subst hR
    clear HR HO HOUT HALL OF
    go_wp2
    go_quiet (fail)
    go_wp2
    refine bodyPost_ret (v := .tuple #[.int .i64 0, .int .i64 12]) (by simp [results, Tryz.results59, go_sem]) rfl ⟨rfl, below_drewN KB.out _⟩
   ·have g1 : decide (y < 0) = false := by simpa using h0
    by_cases h1 : z <= y
    ·have g2 : decide (z <= y) = true := by simpa using h1
     have g3 : decide (y >= z) = true := g2
     have hR : r = (0, 12) := by rw [HR.out, HO.out (by omega)]
     subst hR
     clear HR HO HOUT HALL OF
     go_wp2
     go_quiet (fail)
     go_wp2
     refine bodyPost_ret (v := .tuple #[.int .i64 0, .int .i64 12]) (by simp [results, Tryz.results59, go_sem]) rfl ⟨rfl, below_drewN KB.out _⟩
    ·have g2 : decide (z <= y) = false := by simpa using h1
     have g3 : decide (y >= z) = false := g2
     go_wp2
     go_quiet (fail)
     go_wp2
     go_roundw
     case rel => exact ⟨j + 1, by go_num, by omega, Lib.hid fun i hi => by
      rcases (by omega : i < j \/ i = j) with h | rfl
      ·exact HL.out i h
      ·rw [HZ.out, HY.out]; omega, mm + nq, by first | rfl | rw [World.drewN_drewN]⟩
     case measure => simp [intOf]; omega
  ·obtain ⟨N, hN⟩ := HALL.out fun i hi => HL.out i (by omega)
   have hR : r = (N, 0) := by rw [HR.out, hN]
   subst hR
   have hO := Lib.hid hN
   have OF2 := Lib.hid (OF.out N hN)
   have KBd := Lib.hid (below_drewN KB.out mm)
   clear HR HOUT HALL HL OF hN
   go_wp2_with (go_at_call 69; (with_reducible refine (OF2.out _ (Lib.hid (SlI.keep KBd.out RA.out)) (Lib.hid (SlI.keep KBd.out RX.out))).mono ?_); rintro e w9 ⟨rfl, kk, rfl⟩)
   refine bodyPost_ret (v := .tuple #[.int .i64 N, .int .i64 0]) (by simp [results, Tryz.results59, go_sem]) rfl ⟨rfl, below_drewN KB.out _⟩

theorem ridx (K B F R O : Int) (p : Option Addr) (zs : List Int) (c : Nat) (q : Option Addr) (vs : List (Int × Int)) (d : Nat) (w : World) (b0 : -9223372036854775808 <= B) (b1 : B <= 9223372036854775807) (hn : zs.length <= maxLen) (hm : vs.length <= maxLen) (RA : Hid (SlI w p zs)) (RB : Hid (SlV w q vs)) (x : Option Addr) (xs : List Int) (e : Nat) (hx : xs.length <= maxLen) (RX : Hid (SlI w x xs)) :
  Calls Tryz.prog 59 #[Tn K B F R O p zs.length c q vs.length d, .slice x xs.length e] w fun e w' => e = .returned (.tuple #[.int .i64 (loc K B F R O zs vs xs).1, .int .i64 (loc K B F R O zs vs xs).2]) /\ Below w.heap.size w w' := by
 by_cases ht : tE K B F R O zs vs = 0
 ·by_cases hl : xs.length = zs.length
  ·exact rix_c K B F R O p zs c q vs d w b0 b1 hn hm RA RB x xs e hx RX ht hl
  ·have h := rix_b K B F R O p zs c q vs d w b0 b1 hn hm RA RB x xs e hx RX ht hl
   unfold loc
   rw [if_neg (by simpa using ht), if_pos hl]
   exact h
 ·have h := rix_a K B F R O p zs c q vs d w b0 b1 hn hm RA RB x xs e hx RX ht
  unfold loc
  rw [if_pos ht]
  exact h
end Go.Proofs.YteaaikmejacpaaaGreatDoor.Te

/- Tensors: At of the reference. -/
namespace Go.Proofs.YteaaikmejacpaaaGreatDoor.Te
open Go.ChangeShapes Go.WideShapes Go.ChangeAt Go.RowKit
open Fx Va Sh
set_option maxRecDepth 8000
set_option linter.unusedVariables false
set_option linter.unusedSimpArgs false

set_option maxRecDepth 100000 in
set_option maxHeartbeats 8000000 in
theorem rat_a (K B F R O : Int) (p : Option Addr) (zs : List Int) (c : Nat) (q : Option Addr) (vs : List (Int × Int)) (d : Nat) (w : World) (b0 : -9223372036854775808 <= B) (b1 : B <= 9223372036854775807) (hn : zs.length <= maxLen) (hm : vs.length <= maxLen) (RA : Hid (SlI w p zs)) (RB : Hid (SlV w q vs)) (x : Option Addr) (xs : List Int) (e : Nat) (hx : xs.length <= maxLen) (RX : Hid (SlI w x xs)) (ht : (loc K B F R O zs vs xs).2 ≠ 0) :
  Calls Tryz.prog 25 #[Tn K B F R O p zs.length c q vs.length d, .slice x xs.length e] w fun e w' => e = .returned (.tuple #[.agg #[.int .i64 0, .int .i64 0], .int .i64 (loc K B F R O zs vs xs).2]) /\ Below w.heap.size w w' := by
 have LO0 := fun w h1 h2 h3 => ridx K B F R O p zs c q vs d w b0 b1 hn hm h1 h2 x xs e hx h3
 obtain ⟨⟨i, E⟩, hE⟩ : ∃ r, loc K B F R O zs vs xs = r := ⟨_, rfl⟩
 rw [hE] at LO0 ht ⊢
 dsimp only at LO0 ht ⊢
 have g1 : (E == 0) = false := by simpa using ht
 have g2 : (E != 0) = true := by simpa using ht
 obtain ⟨m, hmm⟩ : ∃ m, vs.length = m := ⟨_, rfl⟩
 have HM := Lib.hid hmm
 rw [hmm] at LO0 ⊢
 have LO := Lib.hid LO0
 have B0 : Hid (Below w.heap.size w ((w.alloc (Obj.cells #[Value.int .i64 K, Value.int .i64 B, Value.int .i64 F, Value.int .i64 R, Value.int .i64 O, Value.slice p zs.length c, Value.slice q m d] 27)).alloc (Obj.cells #[Value.int .i64 0, Value.int .i64 0] 29))) := Lib.hid (((Below.refl _ _).alloc (Nat.le_refl _) _).alloc (by simp) _)
 clear LO0
 clear hE ht hmm hm
 go_enter Tryz.func25, Tryz.ntmps25
 go_wp2_with (go_at_call 59; (with_reducible refine (LO.out _ (Lib.hid (SlI.keep B0.out RA.out)) (Lib.hid (SlV.below RB.out B0.out)) (Lib.hid (SlI.keep B0.out RX.out))).mono ?_); rintro e w1 ⟨rfl, hb⟩; have KB := Lib.hid (B0.out.trans (hb.mono B0.out.size)); have c0 : w1.cell? ⟨w.heap.size, 0, none⟩ = some (.int .i64 K) := Rg.keep hb (by simp; omega) (by go_cell); have c1 : w1.cell? ⟨w.heap.size, 1, none⟩ = some (.int .i64 B) := Rg.keep hb (by simp; omega) (by go_cell); have c2 : w1.cell? ⟨w.heap.size, 2, none⟩ = some (.int .i64 F) := Rg.keep hb (by simp; omega) (by go_cell); have c3 : w1.cell? ⟨w.heap.size, 3, none⟩ = some (.int .i64 R) := Rg.keep hb (by simp; omega) (by go_cell); have c4 : w1.cell? ⟨w.heap.size, 4, none⟩ = some (.int .i64 O) := Rg.keep hb (by simp; omega) (by go_cell); have c5 : w1.cell? ⟨w.heap.size, 5, none⟩ = some (.slice p zs.length c) := Rg.keep hb (by simp; omega) (by go_cell); have c6 : w1.cell? ⟨w.heap.size, 6, none⟩ = some (.slice q m d) := Rg.keep hb (by simp; omega) (by go_cell); have z0 : w1.cell? ⟨w.heap.size + 1, 0, none⟩ = some (.int .i64 0) := Rg.keep hb (by simp) (by go_cell); have f0 : w1.frozen? ⟨w.heap.size + 1, 0, none⟩ = false := Rg.keepF hb (by simp) (by go_cell); have z1 : w1.cell? ⟨w.heap.size + 1, 1, none⟩ = some (.int .i64 0) := Rg.keep hb (by simp) (by go_cell); have f1 : w1.frozen? ⟨w.heap.size + 1, 1, none⟩ = false := Rg.keepF hb (by simp) (by go_cell); have lr : w.heap.size + 1 < w1.heap.size := World.block_lt_of_cell? _ _ z0; clear hb)
 have SB := (KB.out.setCell (p := ⟨w.heap.size + 1, 0, none⟩) (by dsimp only; omega) (.int .i64 0)).setCell (p := ⟨w.heap.size + 1, 1, none⟩) (by dsimp only; omega) (.int .i64 0)
 refine bodyPost_ret (v := .tuple #[.agg #[.int .i64 0, .int .i64 0], .int .i64 E]) (by simp [results, Tryz.results25, go_sem, z0, z1, f0, f1, lr]) rfl ⟨rfl, SB⟩

set_option maxRecDepth 100000 in
set_option maxHeartbeats 8000000 in
theorem rat_b (K B F R O : Int) (p : Option Addr) (zs : List Int) (c : Nat) (q : Option Addr) (vs : List (Int × Int)) (d : Nat) (w : World) (b0 : -9223372036854775808 <= B) (b1 : B <= 9223372036854775807) (hn : zs.length <= maxLen) (hm : vs.length <= maxLen) (RA : Hid (SlI w p zs)) (RB : Hid (SlV w q vs)) (x : Option Addr) (xs : List Int) (e : Nat) (hx : xs.length <= maxLen) (RX : Hid (SlI w x xs)) (ht : (loc K B F R O zs vs xs).2 = 0) :
  Calls Tryz.prog 25 #[Tn K B F R O p zs.length c q vs.length d, .slice x xs.length e] w fun e w' => e = .returned (.tuple #[.agg #[.int .i64 (vs.getD (loc K B F R O zs vs xs).1.toNat (0, 0)).1, .int .i64 (vs.getD (loc K B F R O zs vs xs).1.toNat (0, 0)).2], .int .i64 0]) /\ Below w.heap.size w w' := by
 have LO0 := fun w h1 h2 h3 => ridx K B F R O p zs c q vs d w b0 b1 hn hm h1 h2 x xs e hx h3
 obtain ⟨_, l0, l1⟩ := loc_bd ht
 obtain ⟨⟨i, E⟩, hE⟩ : ∃ r, loc K B F R O zs vs xs = r := ⟨_, rfl⟩
 rw [hE] at LO0 ht l0 l1 ⊢
 dsimp only at LO0 ht l0 l1 ⊢
 subst ht
 obtain ⟨k, rfl⟩ : ∃ k : Nat, i = (k : Int) := ⟨i.toNat, by omega⟩
 rw [Int.toNat_natCast]
 have hk : k < vs.length := by omega
 obtain ⟨bb, oo, rfl, v0, v1⟩ := RB.out k hk
 obtain ⟨xy, hxy⟩ : ∃ xy, vs.getD k (0, 0) = xy := ⟨_, rfl⟩
 rw [hxy] at v0 v1 ⊢
 obtain ⟨a, a'⟩ := xy
 dsimp only at v0 v1 ⊢
 have lb : bb < w.heap.size := World.block_lt_of_cell? _ _ v0
 obtain ⟨m, hmm⟩ : ∃ m, vs.length = m := ⟨_, rfl⟩
 have HM := Lib.hid hmm
 rw [hmm] at LO0 ⊢
 have LO := Lib.hid LO0
 have B0 : Hid (Below w.heap.size w ((w.alloc (Obj.cells #[Value.int .i64 K, Value.int .i64 B, Value.int .i64 F, Value.int .i64 R, Value.int .i64 O, Value.slice p zs.length c, Value.slice (some ⟨bb, oo, none⟩) m d] 27)).alloc (Obj.cells #[Value.int .i64 0, Value.int .i64 0] 29))) := Lib.hid (((Below.refl _ _).alloc (Nat.le_refl _) _).alloc (by simp) _)
 clear LO0
 have k2 : (k : Int) < m := by rw [<- hmm]; omega
 have k0 : (0 : Int) <= k := by omega
 clear hE hmm hm l0 l1 hxy
 go_enter Tryz.func25, Tryz.ntmps25
 go_wp2_with (go_at_call 59; (with_reducible refine (LO.out _ (Lib.hid (SlI.keep B0.out RA.out)) (Lib.hid (SlV.below RB.out B0.out)) (Lib.hid (SlI.keep B0.out RX.out))).mono ?_); rintro e w1 ⟨rfl, hb⟩; have KB := Lib.hid (B0.out.trans (hb.mono B0.out.size)); have c0 : w1.cell? ⟨w.heap.size, 0, none⟩ = some (.int .i64 K) := Rg.keep hb (by simp; omega) (by go_cell); have c1 : w1.cell? ⟨w.heap.size, 1, none⟩ = some (.int .i64 B) := Rg.keep hb (by simp; omega) (by go_cell); have c2 : w1.cell? ⟨w.heap.size, 2, none⟩ = some (.int .i64 F) := Rg.keep hb (by simp; omega) (by go_cell); have c3 : w1.cell? ⟨w.heap.size, 3, none⟩ = some (.int .i64 R) := Rg.keep hb (by simp; omega) (by go_cell); have c4 : w1.cell? ⟨w.heap.size, 4, none⟩ = some (.int .i64 O) := Rg.keep hb (by simp; omega) (by go_cell); have c5 : w1.cell? ⟨w.heap.size, 5, none⟩ = some (.slice p zs.length c) := Rg.keep hb (by simp; omega) (by go_cell); have c6 : w1.cell? ⟨w.heap.size, 6, none⟩ = some (.slice (some ⟨bb, oo, none⟩) m d) := Rg.keep hb (by simp; omega) (by go_cell); have z0 : w1.cell? ⟨w.heap.size + 1, 0, none⟩ = some (.int .i64 0) := Rg.keep hb (by simp) (by go_cell); have f0 : w1.frozen? ⟨w.heap.size + 1, 0, none⟩ = false := Rg.keepF hb (by simp) (by go_cell); have z1 : w1.cell? ⟨w.heap.size + 1, 1, none⟩ = some (.int .i64 0) := Rg.keep hb (by simp) (by go_cell); have f1 : w1.frozen? ⟨w.heap.size + 1, 1, none⟩ = false := Rg.keepF hb (by simp) (by go_cell); have lr : w.heap.size + 1 < w1.heap.size := World.block_lt_of_cell? _ _ z0; have u0 := Rg.keep KB.out lb v0; have u1 := Rg.keep KB.out lb v1; have ng : ¬ w.heap.size + 1 = bb := (by omega); clear hb)
 have SB := (KB.out.setCell (p := ⟨w.heap.size + 1, 0, none⟩) (by dsimp only; omega) (.int .i64 a)).setCell (p := ⟨w.heap.size + 1, 1, none⟩) (by dsimp only; omega) (.int .i64 a')
 refine bodyPost_ret (v := .tuple #[.agg #[.int .i64 a, .int .i64 a'], .int .i64 0]) (by simp [results, Tryz.results25, go_sem, z0, z1, f0, f1, lr]) rfl ⟨rfl, SB⟩
theorem rtat (K B F R O : Int) (p : Option Addr) (zs : List Int) (c : Nat) (q : Option Addr) (vs : List (Int × Int)) (d : Nat) (w : World) (b0 : -9223372036854775808 <= B) (b1 : B <= 9223372036854775807) (hn : zs.length <= maxLen) (hm : vs.length <= maxLen) (RA : Hid (SlI w p zs)) (RB : Hid (SlV w q vs)) (x : Option Addr) (xs : List Int) (e : Nat) (hx : xs.length <= maxLen) (RX : Hid (SlI w x xs)) :
  Calls Tryz.prog 25 #[Tn K B F R O p zs.length c q vs.length d, .slice x xs.length e] w fun e w' => e = .returned (.tuple #[.agg #[.int .i64 (atR K B F R O zs vs xs).1, .int .i64 (atR K B F R O zs vs xs).2.1], .int .i64 (atR K B F R O zs vs xs).2.2]) /\ Below w.heap.size w w' := by
 unfold atR
 by_cases ht : (loc K B F R O zs vs xs).2 = 0
 ·rw [if_neg (by simpa using ht)]
  exact rat_b K B F R O p zs c q vs d w b0 b1 hn hm RA RB x xs e hx RX ht
 ·rw [if_pos ht]
  exact rat_a K B F R O p zs c q vs d w b0 b1 hn hm RA RB x xs e hx RX ht
end Go.Proofs.YteaaikmejacpaaaGreatDoor.Te

/- Tensors: the errors of the reference's Set. -/
namespace Go.Proofs.YteaaikmejacpaaaGreatDoor.Te
open Go.ChangeShapes Go.WideShapes Go.ChangeAt Go.RowKit
open Fx Va Sh
set_option maxRecDepth 8000
set_option linter.unusedVariables false
set_option linter.unusedSimpArgs false

set_option maxRecDepth 100000 in
set_option maxHeartbeats 8000000 in
theorem rset_a (K B F R O : Int) (p : Option Addr) (zs : List Int) (c : Nat) (q : Option Addr) (vs : List (Int × Int)) (d : Nat) (a a' : Int) (w : World) (b0 : -9223372036854775808 <= B) (b1 : B <= 9223372036854775807) (hn : zs.length <= maxLen) (hm : vs.length <= maxLen) (RA : Hid (SlI w p zs)) (RB : Hid (SlV w q vs)) (x : Option Addr) (xs : List Int) (e : Nat) (hx : xs.length <= maxLen) (RX : Hid (SlI w x xs)) (ht : (loc K B F R O zs vs xs).2 ≠ 0) :
  Calls Tryz.prog 26 #[Tn K B F R O p zs.length c q vs.length d, .agg #[.int .i64 a, .int .i64 a'], .slice x xs.length e] w (TRes 0 0 0 0 0 [] [] (loc K B F R O zs vs xs).2 w) := by
 have LO0 := fun w h1 h2 h3 => ridx K B F R O p zs c q vs d w b0 b1 hn hm h1 h2 x xs e hx h3
 obtain ⟨⟨i, E⟩, hE⟩ : ∃ r, loc K B F R O zs vs xs = r := ⟨_, rfl⟩
 rw [hE] at LO0 ht ⊢
 dsimp only at LO0 ht ⊢
 have g1 : (E == 0) = false := by simpa using ht
 have g2 : (E != 0) = true := by simpa using ht
 obtain ⟨m, hmm⟩ : ∃ m, vs.length = m := ⟨_, rfl⟩
 have HM := Lib.hid hmm
 rw [hmm] at LO0 ⊢
 have LO := Lib.hid LO0
 have B0 : Hid (Below w.heap.size w (((w.alloc (Obj.cells #[Value.int .i64 K, Value.int .i64 B, Value.int .i64 F, Value.int .i64 R, Value.int .i64 O, Value.slice p zs.length c, Value.slice q m d] 27)).alloc (Obj.cells #[Value.int .i64 a, Value.int .i64 a'] 29)).alloc (Obj.cells #[Value.int .i64 0, Value.int .i64 0, Value.int .i64 0, Value.int .i64 0, Value.int .i64 0, Value.slice none 0 0, Value.slice none 0 0] 27))) := Lib.hid ((((Below.refl _ _).alloc (Nat.le_refl _) _).alloc (by simp) _).alloc (by simp; omega) _)
 clear LO0
 clear hE ht hmm hm
 go_enter Tryz.func26, Tryz.ntmps26
 go_wp2_with (go_at_call 59; (with_reducible refine (LO.out _ (Lib.hid (SlI.keep B0.out RA.out)) (Lib.hid (SlV.below RB.out B0.out)) (Lib.hid (SlI.keep B0.out RX.out))).mono ?_); rintro e w1 ⟨rfl, hb⟩; have KB := Lib.hid (B0.out.trans (hb.mono B0.out.size)); have c0 : w1.cell? ⟨w.heap.size, 0, none⟩ = some (.int .i64 K) := Rg.keep hb (by simp <;> omega) (by go_cell); have c1 : w1.cell? ⟨w.heap.size, 1, none⟩ = some (.int .i64 B) := Rg.keep hb (by simp <;> omega) (by go_cell); have c2 : w1.cell? ⟨w.heap.size, 2, none⟩ = some (.int .i64 F) := Rg.keep hb (by simp <;> omega) (by go_cell); have c3 : w1.cell? ⟨w.heap.size, 3, none⟩ = some (.int .i64 R) := Rg.keep hb (by simp <;> omega) (by go_cell); have c4 : w1.cell? ⟨w.heap.size, 4, none⟩ = some (.int .i64 O) := Rg.keep hb (by simp <;> omega) (by go_cell); have c5 : w1.cell? ⟨w.heap.size, 5, none⟩ = some (.slice p zs.length c) := Rg.keep hb (by simp <;> omega) (by go_cell); have c6 : w1.cell? ⟨w.heap.size, 6, none⟩ = some (.slice q m d) := Rg.keep hb (by simp <;> omega) (by go_cell); have y0 : w1.cell? ⟨w.heap.size + 1, 0, none⟩ = some (.int .i64 a) := Rg.keep hb (by simp <;> omega) (by go_cell); have y1 : w1.cell? ⟨w.heap.size + 1, 1, none⟩ = some (.int .i64 a') := Rg.keep hb (by simp <;> omega) (by go_cell); have z0 : w1.cell? ⟨w.heap.size + 1 + 1, 0, none⟩ = some (.int .i64 0) := Rg.keep hb (by simp <;> omega) (by go_cell); have f0 : w1.frozen? ⟨w.heap.size + 1 + 1, 0, none⟩ = false := Rg.keepF hb (by simp <;> omega) (by go_cell); have z1 : w1.cell? ⟨w.heap.size + 1 + 1, 1, none⟩ = some (.int .i64 0) := Rg.keep hb (by simp <;> omega) (by go_cell); have f1 : w1.frozen? ⟨w.heap.size + 1 + 1, 1, none⟩ = false := Rg.keepF hb (by simp <;> omega) (by go_cell); have z2 : w1.cell? ⟨w.heap.size + 1 + 1, 2, none⟩ = some (.int .i64 0) := Rg.keep hb (by simp <;> omega) (by go_cell); have f2 : w1.frozen? ⟨w.heap.size + 1 + 1, 2, none⟩ = false := Rg.keepF hb (by simp <;> omega) (by go_cell); have z3 : w1.cell? ⟨w.heap.size + 1 + 1, 3, none⟩ = some (.int .i64 0) := Rg.keep hb (by simp <;> omega) (by go_cell); have f3 : w1.frozen? ⟨w.heap.size + 1 + 1, 3, none⟩ = false := Rg.keepF hb (by simp <;> omega) (by go_cell); have z4 : w1.cell? ⟨w.heap.size + 1 + 1, 4, none⟩ = some (.int .i64 0) := Rg.keep hb (by simp <;> omega) (by go_cell); have f4 : w1.frozen? ⟨w.heap.size + 1 + 1, 4, none⟩ = false := Rg.keepF hb (by simp <;> omega) (by go_cell); have z5 : w1.cell? ⟨w.heap.size + 1 + 1, 5, none⟩ = some (.slice none 0 0) := Rg.keep hb (by simp <;> omega) (by go_cell); have f5 : w1.frozen? ⟨w.heap.size + 1 + 1, 5, none⟩ = false := Rg.keepF hb (by simp <;> omega) (by go_cell); have z6 : w1.cell? ⟨w.heap.size + 1 + 1, 6, none⟩ = some (.slice none 0 0) := Rg.keep hb (by simp <;> omega) (by go_cell); have f6 : w1.frozen? ⟨w.heap.size + 1 + 1, 6, none⟩ = false := Rg.keepF hb (by simp <;> omega) (by go_cell); have lr : w.heap.size + 1 + 1 < w1.heap.size := World.block_lt_of_cell? _ _ z0; clear hb)
 have SBB := (((((((KB.out).setCell (p := ⟨w.heap.size + 1 + 1, 0, none⟩) (by dsimp only; omega) (.int .i64 0)).setCell (p := ⟨w.heap.size + 1 + 1, 1, none⟩) (by dsimp only; omega) (.int .i64 0)).setCell (p := ⟨w.heap.size + 1 + 1, 2, none⟩) (by dsimp only; omega) (.int .i64 0)).setCell (p := ⟨w.heap.size + 1 + 1, 3, none⟩) (by dsimp only; omega) (.int .i64 0)).setCell (p := ⟨w.heap.size + 1 + 1, 4, none⟩) (by dsimp only; omega) (.int .i64 0)).setCell (p := ⟨w.heap.size + 1 + 1, 5, none⟩) (by dsimp only; omega) (.slice none 0 0)).setCell (p := ⟨w.heap.size + 1 + 1, 6, none⟩) (by dsimp only; omega) (.slice none 0 0)
 refine bodyPost_ret (v := .tuple #[.agg #[.int .i64 0, .int .i64 0, .int .i64 0, .int .i64 0, .int .i64 0, .slice none 0 0, .slice none 0 0], .int .i64 E]) (by simp [results, Tryz.results26, go_sem, z0, f0, z1, f1, z2, f2, z3, f3, z4, f4, z5, f5, z6, f6, lr]) rfl (TRes.no SBB)

set_option maxRecDepth 100000 in
set_option maxHeartbeats 8000000 in
theorem rset_b (K B F R O : Int) (p : Option Addr) (zs : List Int) (c : Nat) (q : Option Addr) (vs : List (Int × Int)) (d : Nat) (a a' : Int) (w : World) (b0 : -9223372036854775808 <= B) (b1 : B <= 9223372036854775807) (hn : zs.length <= maxLen) (hm : vs.length <= maxLen) (RA : Hid (SlI w p zs)) (RB : Hid (SlV w q vs)) (x : Option Addr) (xs : List Int) (e : Nat) (hx : xs.length <= maxLen) (RX : Hid (SlI w x xs)) (ht : (loc K B F R O zs vs xs).2 = 0) (hv : vv K B F R O a a' = false) :
  Calls Tryz.prog 26 #[Tn K B F R O p zs.length c q vs.length d, .agg #[.int .i64 a, .int .i64 a'], .slice x xs.length e] w (TRes 0 0 0 0 0 [] [] 1 w) := by
 have LO0 := fun w h1 h2 h3 => ridx K B F R O p zs c q vs d w b0 b1 hn hm h1 h2 x xs e hx h3
 have hty := (tE_ok (loc_bd ht).1).1
 obtain ⟨⟨i, E⟩, hE⟩ : ∃ r, loc K B F R O zs vs xs = r := ⟨_, rfl⟩
 rw [hE] at LO0 ht
 dsimp only at LO0 ht
 subst ht
 have VC0 := fun w => b_vv K B F R O a a' w hty
 rw [hv] at VC0
 have VC := Lib.hid VC0
 obtain ⟨m, hmm⟩ : ∃ m, vs.length = m := ⟨_, rfl⟩
 have HM := Lib.hid hmm
 rw [hmm] at LO0 ⊢
 have LO := Lib.hid LO0
 have B0 : Hid (Below w.heap.size w (((w.alloc (Obj.cells #[Value.int .i64 K, Value.int .i64 B, Value.int .i64 F, Value.int .i64 R, Value.int .i64 O, Value.slice p zs.length c, Value.slice q m d] 27)).alloc (Obj.cells #[Value.int .i64 a, Value.int .i64 a'] 29)).alloc (Obj.cells #[Value.int .i64 0, Value.int .i64 0, Value.int .i64 0, Value.int .i64 0, Value.int .i64 0, Value.slice none 0 0, Value.slice none 0 0] 27))) := Lib.hid ((((Below.refl _ _).alloc (Nat.le_refl _) _).alloc (by simp) _).alloc (by simp; omega) _)
 clear LO0
 clear hE hmm hm VC0 hv
 go_enter Tryz.func26, Tryz.ntmps26
 go_wp2_with (first | (go_at_call 59; (with_reducible refine (LO.out _ (Lib.hid (SlI.keep B0.out RA.out)) (Lib.hid (SlV.below RB.out B0.out)) (Lib.hid (SlI.keep B0.out RX.out))).mono ?_); rintro e w1 ⟨rfl, hb⟩; have KB := Lib.hid (B0.out.trans (hb.mono B0.out.size)); have c0 : w1.cell? ⟨w.heap.size, 0, none⟩ = some (.int .i64 K) := Rg.keep hb (by simp <;> omega) (by go_cell); have c1 : w1.cell? ⟨w.heap.size, 1, none⟩ = some (.int .i64 B) := Rg.keep hb (by simp <;> omega) (by go_cell); have c2 : w1.cell? ⟨w.heap.size, 2, none⟩ = some (.int .i64 F) := Rg.keep hb (by simp <;> omega) (by go_cell); have c3 : w1.cell? ⟨w.heap.size, 3, none⟩ = some (.int .i64 R) := Rg.keep hb (by simp <;> omega) (by go_cell); have c4 : w1.cell? ⟨w.heap.size, 4, none⟩ = some (.int .i64 O) := Rg.keep hb (by simp <;> omega) (by go_cell); have c5 : w1.cell? ⟨w.heap.size, 5, none⟩ = some (.slice p zs.length c) := Rg.keep hb (by simp <;> omega) (by go_cell); have c6 : w1.cell? ⟨w.heap.size, 6, none⟩ = some (.slice q m d) := Rg.keep hb (by simp <;> omega) (by go_cell); have y0 : w1.cell? ⟨w.heap.size + 1, 0, none⟩ = some (.int .i64 a) := Rg.keep hb (by simp <;> omega) (by go_cell); have y1 : w1.cell? ⟨w.heap.size + 1, 1, none⟩ = some (.int .i64 a') := Rg.keep hb (by simp <;> omega) (by go_cell); have z0 : w1.cell? ⟨w.heap.size + 1 + 1, 0, none⟩ = some (.int .i64 0) := Rg.keep hb (by simp <;> omega) (by go_cell); have f0 : w1.frozen? ⟨w.heap.size + 1 + 1, 0, none⟩ = false := Rg.keepF hb (by simp <;> omega) (by go_cell); have z1 : w1.cell? ⟨w.heap.size + 1 + 1, 1, none⟩ = some (.int .i64 0) := Rg.keep hb (by simp <;> omega) (by go_cell); have f1 : w1.frozen? ⟨w.heap.size + 1 + 1, 1, none⟩ = false := Rg.keepF hb (by simp <;> omega) (by go_cell); have z2 : w1.cell? ⟨w.heap.size + 1 + 1, 2, none⟩ = some (.int .i64 0) := Rg.keep hb (by simp <;> omega) (by go_cell); have f2 : w1.frozen? ⟨w.heap.size + 1 + 1, 2, none⟩ = false := Rg.keepF hb (by simp <;> omega) (by go_cell); have z3 : w1.cell? ⟨w.heap.size + 1 + 1, 3, none⟩ = some (.int .i64 0) := Rg.keep hb (by simp <;> omega) (by go_cell); have f3 : w1.frozen? ⟨w.heap.size + 1 + 1, 3, none⟩ = false := Rg.keepF hb (by simp <;> omega) (by go_cell); have z4 : w1.cell? ⟨w.heap.size + 1 + 1, 4, none⟩ = some (.int .i64 0) := Rg.keep hb (by simp <;> omega) (by go_cell); have f4 : w1.frozen? ⟨w.heap.size + 1 + 1, 4, none⟩ = false := Rg.keepF hb (by simp <;> omega) (by go_cell); have z5 : w1.cell? ⟨w.heap.size + 1 + 1, 5, none⟩ = some (.slice none 0 0) := Rg.keep hb (by simp <;> omega) (by go_cell); have f5 : w1.frozen? ⟨w.heap.size + 1 + 1, 5, none⟩ = false := Rg.keepF hb (by simp <;> omega) (by go_cell); have z6 : w1.cell? ⟨w.heap.size + 1 + 1, 6, none⟩ = some (.slice none 0 0) := Rg.keep hb (by simp <;> omega) (by go_cell); have f6 : w1.frozen? ⟨w.heap.size + 1 + 1, 6, none⟩ = false := Rg.keepF hb (by simp <;> omega) (by go_cell); have lr : w.heap.size + 1 + 1 < w1.heap.size := World.block_lt_of_cell? _ _ z0; clear hb) | (go_at_call 54; (with_reducible refine (VC.out _).mono ?_); rintro e w2 ⟨rfl, hb2⟩; have lrb : w.heap.size + 1 + 1 < w2.heap.size := Nat.lt_of_lt_of_le lr hb2.size; replace c0 := Rg.keep hb2 (by omega) c0; replace c1 := Rg.keep hb2 (by omega) c1; replace c2 := Rg.keep hb2 (by omega) c2; replace c3 := Rg.keep hb2 (by omega) c3; replace c4 := Rg.keep hb2 (by omega) c4; replace c5 := Rg.keep hb2 (by omega) c5; replace c6 := Rg.keep hb2 (by omega) c6; replace y0 := Rg.keep hb2 (by omega) y0; replace y1 := Rg.keep hb2 (by omega) y1; replace z0 := Rg.keep hb2 lr z0; replace f0 := Rg.keepF hb2 lr f0; replace z1 := Rg.keep hb2 lr z1; replace f1 := Rg.keepF hb2 lr f1; replace z2 := Rg.keep hb2 lr z2; replace f2 := Rg.keepF hb2 lr f2; replace z3 := Rg.keep hb2 lr z3; replace f3 := Rg.keepF hb2 lr f3; replace z4 := Rg.keep hb2 lr z4; replace f4 := Rg.keepF hb2 lr f4; replace z5 := Rg.keep hb2 lr z5; replace f5 := Rg.keepF hb2 lr f5; replace z6 := Rg.keep hb2 lr z6; replace f6 := Rg.keepF hb2 lr f6; have KB2 := Lib.hid (KB.out.trans (hb2.mono KB.out.size)); clear hb2 lr))
 have lr := lrb
 have SBB := (((((((KB2.out).setCell (p := ⟨w.heap.size + 1 + 1, 0, none⟩) (by dsimp only; omega) (.int .i64 0)).setCell (p := ⟨w.heap.size + 1 + 1, 1, none⟩) (by dsimp only; omega) (.int .i64 0)).setCell (p := ⟨w.heap.size + 1 + 1, 2, none⟩) (by dsimp only; omega) (.int .i64 0)).setCell (p := ⟨w.heap.size + 1 + 1, 3, none⟩) (by dsimp only; omega) (.int .i64 0)).setCell (p := ⟨w.heap.size + 1 + 1, 4, none⟩) (by dsimp only; omega) (.int .i64 0)).setCell (p := ⟨w.heap.size + 1 + 1, 5, none⟩) (by dsimp only; omega) (.slice none 0 0)).setCell (p := ⟨w.heap.size + 1 + 1, 6, none⟩) (by dsimp only; omega) (.slice none 0 0)
 refine bodyPost_ret (v := .tuple #[.agg #[.int .i64 0, .int .i64 0, .int .i64 0, .int .i64 0, .int .i64 0, .slice none 0 0, .slice none 0 0], .int .i64 1]) (by simp [results, Tryz.results26, go_sem, z0, f0, z1, f1, z2, f2, z3, f3, z4, f4, z5, f5, z6, f6, lr]) rfl (TRes.no SBB)
end Go.Proofs.YteaaikmejacpaaaGreatDoor.Te

/- Tensors: Tensor of package base, two that read alike. -/
namespace Go.Proofs.YteaaikmejacpaaaGreatDoor.Te
open Go.ChangeShapes Go.WideShapes Go.ChangeAt Go.RowKit
open Fx Va Sh
set_option maxRecDepth 8000
set_option linter.unusedVariables false
set_option linter.unusedSimpArgs false

set_option maxRecDepth 100000 in
set_option maxHeartbeats 2000000 in
theorem bten (K B F R O : Int) (p p' : Option Addr) (zs : List Int) (c c' : Nat) (q q' : Option Addr) (vs : List (Int × Int)) (d d' : Nat) (w : World) (hn : zs.length <= maxLen) (hm : vs.length <= maxLen) (RA : Hid (SlI w p zs)) (RB : Hid (SlV w q vs)) (RA' : Hid (SlI w p' zs)) (RB' : Hid (SlV w q' vs)) :
  Calls Tryz.prog 22 #[Tn K B F R O p zs.length c q vs.length d, Tn K B F R O p' zs.length c' q' vs.length d'] w fun e w' => e = .returned (.bool true) /\ Below w.heap.size w w' := by
 have BI := Lib.hid fun u h1 h2 => c18 p p' zs zs c c' u hn hn h1 h2
 have BV := Lib.hid fun u h1 h2 => bvals q q' vs vs d d' u hm hm h1 h2
 rw [decide_eq_true (show zs = zs from rfl)] at BI
 rw [decide_eq_true (show vs = vs from rfl)] at BV
 have K0 := Lib.hid (((Below.refl w.heap.size w).alloc (Nat.le_refl _) (Obj.cells #[Value.int .i64 K, Value.int .i64 B, Value.int .i64 F, Value.int .i64 R, Value.int .i64 O, Value.slice p zs.length c, Value.slice q vs.length d] 27)).alloc (by simp) (Obj.cells #[Value.int .i64 K, Value.int .i64 B, Value.int .i64 F, Value.int .i64 R, Value.int .i64 O, Value.slice p' zs.length c', Value.slice q' vs.length d'] 27))
 unfold Tn at *
 clear hn hm
 go_enter Tryz.func22, Tryz.ntmps22
 go_wp2_with (first | (go_at_call 28; (with_reducible refine (BI.out _ (Lib.hid (SlI.keep K0.out RA.out)) (Lib.hid (SlI.keep K0.out RA'.out))).mono ?_); rintro e w2 ⟨rfl, k1, rfl⟩) | (go_at_call 36; (with_reducible refine (BV.out _ (Lib.hid (SlV.below RB.out (below_drewN K0.out k1))) (Lib.hid (SlV.below RB'.out (below_drewN K0.out k1)))).mono ?_); rintro e w3 ⟨rfl, k2, rfl⟩))
 go_ret
 exact ⟨rfl, by first | exact below_drewN K0.out _ | exact below_drewN (below_drewN K0.out _) _⟩
end Go.Proofs.YteaaikmejacpaaaGreatDoor.Te

/- Tensors: Set of the reference. -/
namespace Go.Proofs.YteaaikmejacpaaaGreatDoor.Te
open Go.ChangeShapes Go.WideShapes Go.ChangeAt Go.RowKit
open Fx Va Sh
set_option maxRecDepth 8000
set_option linter.unusedVariables false
set_option linter.unusedSimpArgs false

theorem take_snoc {l : List (Int × Int)} {j : Nat} (h : j < l.length) : l.take (j + 1) = l.take j ++ [((l.getD j (0, 0)).1, (l.getD j (0, 0)).2)] := by
 rw [List.take_add_one, List.getElem?_eq_getElem h, List.getD_eq_getElem?_getD, List.getElem?_eq_getElem h]
 rfl
theorem set_getD {vs : List (Int × Int)} {k j : Nat} {v : Int × Int} (h : j < vs.length) : (vs.set k v).getD j (0, 0) = if k = j then v else vs.getD j (0, 0) := by
 rw [List.getD_eq_getElem?_getD, List.getElem?_set]
 by_cases e : k = j
 ·rw [if_pos e, if_pos e, if_pos (by omega)]; rfl
 ·rw [if_neg e, if_neg e, List.getD_eq_getElem?_getD]

set_option maxRecDepth 100000 in
set_option maxHeartbeats 2000000 in
theorem rset_c (K B F R O : Int) (p : Option Addr) (zs : List Int) (c : Nat) (q : Option Addr) (vs : List (Int × Int)) (d : Nat) (a a' : Int) (w : World) (b0 : -9223372036854775808 <= B) (b1 : B <= 9223372036854775807) (hn : zs.length <= maxLen) (hm : vs.length <= maxLen) (RA : Hid (SlI w p zs)) (RB : Hid (SlV w q vs)) (x : Option Addr) (xs : List Int) (e : Nat) (hx : xs.length <= maxLen) (RX : Hid (SlI w x xs)) (ht : (loc K B F R O zs vs xs).2 = 0) (hv : vv K B F R O a a' = true) :
  Calls Tryz.prog 26 #[Tn K B F R O p zs.length c q vs.length d, .agg #[.int .i64 a, .int .i64 a'], .slice x xs.length e] w (fun en w' => ∃ q' d', en = .returned (.tuple #[Tn K B F R O p zs.length c q' vs.length d', .int .i64 0]) /\ SlV w' q' (vs.set (loc K B F R O zs vs xs).1.toNat (a, a')) /\ Below w.heap.size w w') := by
 have LO0 := fun w h1 h2 h3 => ridx K B F R O p zs c q vs d w b0 b1 hn hm h1 h2 x xs e hx h3
 obtain ⟨te, l0, l1⟩ := loc_bd ht
 obtain ⟨hty, tv0, tl, -⟩ := tE_ok te
 obtain ⟨h6, -, -, hsp, -⟩ := valid_of tv0
 obtain ⟨⟨i, E⟩, hE⟩ : ∃ r, loc K B F R O zs vs xs = r := ⟨_, rfl⟩
 rw [hE] at LO0 ht l0 l1 ⊢
 dsimp only at LO0 ht l0 l1 ⊢
 subst ht
 have VC0 := fun w => b_vv K B F R O a a' w hty
 rw [hv] at VC0
 have VC := Lib.hid VC0
 obtain ⟨k, rfl⟩ : ∃ k : Nat, i = (k : Int) := ⟨i.toNat, by omega⟩
 rw [Int.toNat_natCast]
 have hk : k < vs.length := by omega
 have hm4 : vs.length <= 4096 := by omega
 obtain ⟨vb, vo, hqq, -⟩ := RB.out 0 (by omega)
 subst hqq
 obtain ⟨m, hmm⟩ : ∃ m, vs.length = m := ⟨_, rfl⟩
 have HM := Lib.hid hmm
 rw [hmm] at LO0 hk hm4
 have LO := Lib.hid LO0
 have B0 : Hid (Below w.heap.size w (((w.alloc (Obj.cells #[Value.int .i64 K, Value.int .i64 B, Value.int .i64 F, Value.int .i64 R, Value.int .i64 O, Value.slice p zs.length c, Value.slice (some ⟨vb, vo, none⟩) m d] 27)).alloc (Obj.cells #[Value.int .i64 a, Value.int .i64 a'] 29)).alloc (Obj.cells #[Value.int .i64 0, Value.int .i64 0, Value.int .i64 0, Value.int .i64 0, Value.int .i64 0, Value.slice none 0 0, Value.slice none 0 0] 27))) := Lib.hid ((((Below.refl _ _).alloc (Nat.le_refl _) _).alloc (by simp) _).alloc (by simp; omega) _)
 clear LO0
 rw [hmm]
 have k2 : (k : Int) < m := by omega
 have k0 : (0 : Int) <= k := by omega
 clear hE hmm hm VC0 hv te tv0 tl h6 hsp l0 l1 hty
 go_enter Tryz.func26, Tryz.ntmps26
 go_wp2_with (first | (go_at_call 59; (with_reducible refine (LO.out _ (Lib.hid (SlI.keep B0.out RA.out)) (Lib.hid (SlV.below RB.out B0.out)) (Lib.hid (SlI.keep B0.out RX.out))).mono ?_); rintro e w1 ⟨rfl, hb⟩; have KB := Lib.hid (B0.out.trans (hb.mono B0.out.size)); have c0 : w1.cell? ⟨w.heap.size, 0, none⟩ = some (.int .i64 K) := Rg.keep hb (by simp <;> omega) (by go_cell); have c1 : w1.cell? ⟨w.heap.size, 1, none⟩ = some (.int .i64 B) := Rg.keep hb (by simp <;> omega) (by go_cell); have c2 : w1.cell? ⟨w.heap.size, 2, none⟩ = some (.int .i64 F) := Rg.keep hb (by simp <;> omega) (by go_cell); have c3 : w1.cell? ⟨w.heap.size, 3, none⟩ = some (.int .i64 R) := Rg.keep hb (by simp <;> omega) (by go_cell); have c4 : w1.cell? ⟨w.heap.size, 4, none⟩ = some (.int .i64 O) := Rg.keep hb (by simp <;> omega) (by go_cell); have c5 : w1.cell? ⟨w.heap.size, 5, none⟩ = some (.slice p zs.length c) := Rg.keep hb (by simp <;> omega) (by go_cell); have c6 : w1.cell? ⟨w.heap.size, 6, none⟩ = some (.slice (some ⟨vb, vo, none⟩) m d) := Rg.keep hb (by simp <;> omega) (by go_cell); have y0 : w1.cell? ⟨w.heap.size + 1, 0, none⟩ = some (.int .i64 a) := Rg.keep hb (by simp <;> omega) (by go_cell); have y1 : w1.cell? ⟨w.heap.size + 1, 1, none⟩ = some (.int .i64 a') := Rg.keep hb (by simp <;> omega) (by go_cell); have z0 : w1.cell? ⟨w.heap.size + 1 + 1, 0, none⟩ = some (.int .i64 0) := Rg.keep hb (by simp <;> omega) (by go_cell); have f0 : w1.frozen? ⟨w.heap.size + 1 + 1, 0, none⟩ = false := Rg.keepF hb (by simp <;> omega) (by go_cell); have z1 : w1.cell? ⟨w.heap.size + 1 + 1, 1, none⟩ = some (.int .i64 0) := Rg.keep hb (by simp <;> omega) (by go_cell); have f1 : w1.frozen? ⟨w.heap.size + 1 + 1, 1, none⟩ = false := Rg.keepF hb (by simp <;> omega) (by go_cell); have z2 : w1.cell? ⟨w.heap.size + 1 + 1, 2, none⟩ = some (.int .i64 0) := Rg.keep hb (by simp <;> omega) (by go_cell); have f2 : w1.frozen? ⟨w.heap.size + 1 + 1, 2, none⟩ = false := Rg.keepF hb (by simp <;> omega) (by go_cell); have z3 : w1.cell? ⟨w.heap.size + 1 + 1, 3, none⟩ = some (.int .i64 0) := Rg.keep hb (by simp <;> omega) (by go_cell); have f3 : w1.frozen? ⟨w.heap.size + 1 + 1, 3, none⟩ = false := Rg.keepF hb (by simp <;> omega) (by go_cell); have z4 : w1.cell? ⟨w.heap.size + 1 + 1, 4, none⟩ = some (.int .i64 0) := Rg.keep hb (by simp <;> omega) (by go_cell); have f4 : w1.frozen? ⟨w.heap.size + 1 + 1, 4, none⟩ = false := Rg.keepF hb (by simp <;> omega) (by go_cell); have z5 : w1.cell? ⟨w.heap.size + 1 + 1, 5, none⟩ = some (.slice none 0 0) := Rg.keep hb (by simp <;> omega) (by go_cell); have f5 : w1.frozen? ⟨w.heap.size + 1 + 1, 5, none⟩ = false := Rg.keepF hb (by simp <;> omega) (by go_cell); have z6 : w1.cell? ⟨w.heap.size + 1 + 1, 6, none⟩ = some (.slice none 0 0) := Rg.keep hb (by simp <;> omega) (by go_cell); have f6 : w1.frozen? ⟨w.heap.size + 1 + 1, 6, none⟩ = false := Rg.keepF hb (by simp <;> omega) (by go_cell); have lr : w.heap.size + 1 + 1 < w1.heap.size := World.block_lt_of_cell? _ _ z0; clear hb) | (go_at_call 54; (with_reducible refine (VC.out _).mono ?_); rintro e w2 ⟨rfl, hb2⟩; have lrb : w.heap.size + 1 + 1 < w2.heap.size := Nat.lt_of_lt_of_le lr hb2.size; replace c0 := Rg.keep hb2 (by omega) c0; replace c1 := Rg.keep hb2 (by omega) c1; replace c2 := Rg.keep hb2 (by omega) c2; replace c3 := Rg.keep hb2 (by omega) c3; replace c4 := Rg.keep hb2 (by omega) c4; replace c5 := Rg.keep hb2 (by omega) c5; replace c6 := Rg.keep hb2 (by omega) c6; replace y0 := Rg.keep hb2 (by omega) y0; replace y1 := Rg.keep hb2 (by omega) y1; replace z0 := Rg.keep hb2 lr z0; replace f0 := Rg.keepF hb2 lr f0; replace z1 := Rg.keep hb2 lr z1; replace f1 := Rg.keepF hb2 lr f1; replace z2 := Rg.keep hb2 lr z2; replace f2 := Rg.keepF hb2 lr f2; replace z3 := Rg.keep hb2 lr z3; replace f3 := Rg.keepF hb2 lr f3; replace z4 := Rg.keep hb2 lr z4; replace f4 := Rg.keepF hb2 lr f4; replace z5 := Rg.keep hb2 lr z5; replace f5 := Rg.keepF hb2 lr f5; replace z6 := Rg.keep hb2 lr z6; replace f6 := Rg.keepF hb2 lr f6; have KB2 := Lib.hid (KB.out.trans (hb2.mono KB.out.size)); clear hb2 lr))
 have KG := Lib.hid ((Below.refl w2.heap.size w2).alloc (Nat.le_refl _) (Obj.cells #[Value.int .i64 K, Value.int .i64 B, Value.int .i64 F, Value.int .i64 R, Value.int .i64 O, Value.slice p zs.length c, Value.slice none 0 0] 27))
 have DG : Hid (B7 (w2.alloc (Obj.cells #[Value.int .i64 K, Value.int .i64 B, Value.int .i64 F, Value.int .i64 R, Value.int .i64 O, Value.slice p zs.length c, Value.slice none 0 0] 27)) (w2.heap.size) (.int .i64 K) (.int .i64 B) (.int .i64 F) (.int .i64 R) (.int .i64 O) (.slice p zs.length c) (.slice none 0 0)) := Lib.hid (B7.new w2 _ (.int .i64 K) (.int .i64 B) (.int .i64 F) (.int .i64 R) (.int .i64 O) (.slice p zs.length c) (.slice none 0 0))
 have hww : w.heap.size + 1 + 1 < w2.heap.size := lrb
 have HC6 := Lib.hid c6
 have HY := Lib.hid (And.intro y0 y1)
 have RZ : Hid (B7 w2 (w.heap.size + 1 + 1) (.int .i64 0) (.int .i64 0) (.int .i64 0) (.int .i64 0) (.int .i64 0) (.slice none 0 0) (.slice none 0 0)) := Lib.hid ⟨⟨z0, z1, z2, z3, z4, z5, z6⟩, ⟨f0, f1, f2, f3, f4, f5, f6⟩⟩
 have HSN0 := Lib.hid fun j (hj : j < vs.length) => take_snoc (l := vs.set k (a, a')) (j := j) (by rw [List.length_set]; exact hj)
 have HSG := Lib.hid fun j (hj : j < vs.length) => set_getD (vs := vs) (k := k) (v := (a, a')) hj
 rw [HM.out] at HSN0 HSG
 clear c0 c1 c2 c3 c4 c5 c6 y0 y1 z0 z1 z2 z3 z4 z5 z6 f0 f1 f2 f3 f4 f5 f6 KB
 go_loopw [11] (fun iv wr => ∃ (j : Nat) (qv : Option Addr) (dv : Nat), iv = .int .i64 (j : Int) /\ j <= m /\ Hid (B7 wr (w2.heap.size) (.int .i64 K) (.int .i64 B) (.int .i64 F) (.int .i64 R) (.int .i64 O) (.slice p zs.length c) (.slice qv j dv)) /\ Hid (wr.ownsRow (w2.heap.size + 1) 29 2 (.slice qv j dv) j (flV ((vs.set k (a, a')).take j))) /\ Hid (Below w2.heap.size w2 wr) /\ w2.heap.size + 1 <= wr.heap.size) (fun iv _ => m - (intOf iv).toNat)
 case atStart => exact ⟨0, none, 0, rfl, Nat.zero_le _, DG, Lib.hid (World.ownsRow_nil _ _ _ _), KG, by simp⟩
 case round =>
  obtain ⟨j, qv, dv, rfl, hj, DJ, VJ, KJ, hszr⟩ := hrel
  clear DG KG LO VC
  have c6 := Rg.keep KJ.out (by omega) HC6.out
  obtain ⟨⟨m0, m1, m2, m3, m4, m5, m6⟩, ⟨g0, g1, g2, g3, g4, g5, g6⟩⟩ := DJ.out
  have lDJ := DJ.out.lt
  by_cases hjm : j < m
  ·have hj2 : (j : Int) < m := by omega
   have hj0 : (0 : Int) <= j := by omega
   have hsn := HSN0.out j hjm
   rw [HSG.out j hjm] at hsn
   obtain ⟨i0, hi, hz0, hz1, hz2⟩ := info_parts infoV
   by_cases hjk : k = j
   ·rw [if_pos hjk] at hsn
    have HSN := Lib.hid hsn
    have y0 := Rg.keep KJ.out (by omega) HY.out.1
    have y1 := Rg.keep KJ.out (by omega) HY.out.2
    have gk : ((j : Int) == (k : Int)) = true := by simp; omega
    clear hsn
    go_wp2_with (at_builtin; refine wpList_append_own _ rfl _ _ 25 rfl (w2.heap.size + 1) 29 i0 (.agg #[.int .i64 0, .int .i64 0]) 2 16 Tryz.underlying25 hi hz0 hz1 hz2 rfl (by decide) _ _ _ rfl (VJ.out.alloc (Obj.cells #[Value.int .i64 a, Value.int .i64 a'] 29)) ⟨wr.heap.size, 0, none⟩ 1 1 [.int .i64 a, .int .i64 a'] rfl rfl ?_ ?_ ?_ ?_ ?_ ?_; exact news2 wr a a' rfl; exact news1 a a'; (unfold maxLen; omega); omega; (simp; omega); intro v8 w8 hown8 hgrow _; obtain ⟨qn, dn, rfl⟩ := own_slice hown8; have hrow := row_base VJ.out; have D8 := Lib.hid ((DJ.out.alloc (Obj.cells #[Value.int .i64 a, Value.int .i64 a'] 29)).grown hgrow (fun e => by have := hrow _ e.symm; omega)); have V8 := Lib.hid hown8; have K8 := Lib.hid ((KJ.out.alloc (by omega) (Obj.cells #[Value.int .i64 a, Value.int .i64 a'] 29)).grown hgrow (by simp; omega) (fun k e => by have := hrow _ e; omega)); have hs8 := hgrow.size; obtain ⟨⟨m0, m1, m2, m3, m4, m5, m6⟩, ⟨g0, g1, g2, g3, g4, g5, g6⟩⟩ := D8.out; have lD8 := D8.out.lt; simp at hs8; clear hown8 hgrow)
    go_roundw
    case rel =>
     first
     | exact ⟨j + 1, qn, dn, by simp, by omega, Lib.hid D8.out.set6, Lib.hid (by (try subst hjk); rw [HSN.out, flV_snoc]; exact own_set V8.out (by dsimp only; omega)), Lib.hid (K8.out.setCell (p := ⟨w2.heap.size, 6, none⟩) (by dsimp only; omega) _), by rw [World.size_setCell]; omega⟩
     | exact ⟨j + 1, by simp, by omega, qn, dn, Lib.hid D8.out.set6, Lib.hid (by (try subst hjk); rw [HSN.out, flV_snoc]; exact own_set V8.out (by dsimp only; omega)), Lib.hid (K8.out.setCell (p := ⟨w2.heap.size, 6, none⟩) (by dsimp only; omega) _), by omega⟩
    case measure => simp [intOf]; omega
   ·rw [if_neg hjk] at hsn
    obtain ⟨b', o', ee, v0, v1⟩ := RB.out j (by rw [HM.out]; exact hjm)
    cases ee
    have hvb : vb < w.heap.size := World.block_lt_of_cell? _ _ v0
    have KW := KB2.out.trans (KJ.out.mono (by omega))
    replace v0 := Rg.keep KW hvb v0
    replace v1 := Rg.keep KW hvb v1
    obtain ⟨⟨t1, t2⟩, hs⟩ : ∃ s, vs.getD j (0, 0) = s := ⟨_, rfl⟩
    rw [hs] at hsn v0 v1
    dsimp only at hsn v0 v1
    have HSN := Lib.hid hsn
    have gk : ((j : Int) == (k : Int)) = false := by rw [beq_eq_false_iff_ne]; omega
    clear hsn hs KW
    go_upto_region 12 with fail
    have HS : Hid (∀ u u' : World, (u.cell? ⟨w2.heap.size, 6, none⟩ = some (.slice qv j dv) /\ u.cell? ⟨w.heap.size, 6, none⟩ = some (.slice (some ⟨vb, vo, none⟩) m d) /\ u.cell? ⟨vb, vo + j * 2, none⟩ = some (.int .i64 t1) /\ u.cell? ⟨vb, vo + j * 2 + 1, none⟩ = some (.int .i64 t2) /\ Below (w2.heap.size + 1) wr u) -> Below (w2.heap.size + 1) u u' -> (u'.cell? ⟨w2.heap.size, 6, none⟩ = some (.slice qv j dv) /\ u'.cell? ⟨w.heap.size, 6, none⟩ = some (.slice (some ⟨vb, vo, none⟩) m d) /\ u'.cell? ⟨vb, vo + j * 2, none⟩ = some (.int .i64 t1) /\ u'.cell? ⟨vb, vo + j * 2 + 1, none⟩ = some (.int .i64 t2) /\ Below (w2.heap.size + 1) wr u')) := Lib.hid (fun u u' h hb => ⟨(World.cell?_of_block (hb.block (w2.heap.size) (by omega))).trans h.1, (World.cell?_of_block (hb.block (w.heap.size) (by omega))).trans h.2.1, (World.cell?_of_block (hb.block (vb) (by omega))).trans h.2.2.1, (World.cell?_of_block (hb.block (vb) (by omega))).trans h.2.2.2.1, h.2.2.2.2.trans hb⟩)
    refine Rk.begin (S := fun wS => (wS.cell? ⟨w2.heap.size, 6, none⟩ = some (.slice qv j dv) /\ wS.cell? ⟨w.heap.size, 6, none⟩ = some (.slice (some ⟨vb, vo, none⟩) m d) /\ wS.cell? ⟨vb, vo + j * 2, none⟩ = some (.int .i64 t1) /\ wS.cell? ⟨vb, vo + j * 2 + 1, none⟩ = some (.int .i64 t2) /\ Below (w2.heap.size + 1) wr wS)) 10 (by kernel_rfl) ⟨m6, c6, v0, v1, Below.drew (Below.refl _ _)⟩ (fun hHeld => ?_)
    refine Rk.takeP (i := 0) (v := ?_) rfl (by kernel_rfl) (by kernel_rfl) (by kernel_rfl) (by kernel_rfl) (fun _ _ _ h => h) (Or.inl ⟨by kernel_rfl, ?_⟩) (by assumption) ?_
    rotate_left
    ·((intro w hSw; go_simp) <;> with_reducible rfl)
    try simp only [Act.put, List.setIfInBounds_toArray, List.set_cons_zero, List.set_cons_succ]
    refine Rk.take [10] (i := 1) (v := ?_) rfl (by kernel_rfl) (by kernel_rfl) (by kernel_rfl) (by kernel_rfl) (by kernel_rfl) (fun _ _ _ h => h) (Or.inl ⟨by kernel_rfl, ?_⟩) (by assumption) ?_
    rotate_left
    ·((intro w hSw; (try dsimp only at hSw); go_simp) <;> with_reducible rfl)
    try simp only [Act.put, List.setIfInBounds_toArray, List.set_cons_zero, List.set_cons_succ]
    refine Rk.takeP (i := 2) (v := ?_) rfl (by kernel_rfl) (by kernel_rfl) (by kernel_rfl) (by kernel_rfl) (fun _ _ _ h => h) (Or.inl ⟨by kernel_rfl, ?_⟩) (by assumption) ?_
    rotate_left
    ·((intro w hSw; go_simp) <;> with_reducible rfl)
    try simp only [Act.put, List.setIfInBounds_toArray, List.set_cons_zero, List.set_cons_succ]
    refine Rk.take [10] (i := 3) (v := ?_) rfl (by kernel_rfl) (by kernel_rfl) (by kernel_rfl) (by kernel_rfl) (by kernel_rfl) (fun _ _ _ h => h) (Or.inl ⟨by kernel_rfl, ?_⟩) (by assumption) ?_
    rotate_left
    ·((intro w hSw; (try dsimp only at hSw); go_simp) <;> with_reducible rfl)
    try simp only [Act.put, List.setIfInBounds_toArray, List.set_cons_zero, List.set_cons_succ]
    refine Rk.takeP (i := 4) (v := ?_) rfl (by kernel_rfl) (by kernel_rfl) (by kernel_rfl) (by kernel_rfl) (fun _ _ _ h => h) (Or.inl ⟨by kernel_rfl, ?_⟩) (by assumption) ?_
    rotate_left
    ·((intro w hSw; go_simp) <;> with_reducible rfl)
    try simp only [Act.put, List.setIfInBounds_toArray, List.set_cons_zero, List.set_cons_succ]
    refine Rk.takeP (i := 5) (v := ?_) rfl (by kernel_rfl) (by kernel_rfl) (by kernel_rfl) (by kernel_rfl) (fun _ _ _ h => h) (Or.inl ⟨by kernel_rfl, ?_⟩) (by assumption) ?_
    rotate_left
    ·((intro w hSw; go_simp) <;> with_reducible rfl)
    try simp only [Act.put, List.setIfInBounds_toArray, List.set_cons_zero, List.set_cons_succ]
    refine Rk.take [10] (i := 6) (v := ?_) rfl (by kernel_rfl) (by kernel_rfl) (by kernel_rfl) (by kernel_rfl) (by kernel_rfl) (fun _ _ _ h => h) (Or.inl ⟨by kernel_rfl, ?_⟩) (by assumption) ?_
    rotate_left
    ·((intro w hSw; (try dsimp only at hSw); go_simp) <;> with_reducible rfl)
    try simp only [Act.put, List.setIfInBounds_toArray, List.set_cons_zero, List.set_cons_succ]
    refine Rk.one (i := 7) (by kernel_rfl) rfl (fun KK hK => ?_)
    rw [if_pos (by kernel_rfl)]
    go_simp
    have hS7 := HS.out wr (wr.alloc (Obj.cells #[Value.int .i64 t1, Value.int .i64 t2] 29)) ⟨m6, c6, v0, v1, Below.refl _ _⟩ ((Below.refl _ _).alloc hszr (Obj.cells #[Value.int .i64 t1, Value.int .i64 t2] 29))
    first | (refine hK.out _ _ (fun _ => ⟨hS7.1, hS7.2.1, hS7.2.2.1, hS7.2.2.2.1, hS7.2.2.2.2.drew⟩) (fun hHeld => ?_)) | (refine hK.out _ _ ⟨hS7.1, hS7.2.1, hS7.2.2.1, hS7.2.2.2.1, hS7.2.2.2.2.drew⟩ (fun hHeld => ?_)) | (refine hK.out _ _ (fun _ => hS7) (fun hHeld => ?_)) | (refine hK.out _ _ hS7 (fun hHeld => ?_))
    clear hK KK
    refine Rk.one (i := 8) (by kernel_rfl) rfl (fun KK hK => ?_)
    rw [if_pos (by kernel_rfl)]
    refine wp_append_own _ _ _ 25 rfl (w2.heap.size + 1) 29 i0 (.agg #[.int .i64 0, .int .i64 0]) 2 16 Tryz.underlying25 hi hz0 hz1 hz2 rfl (by decide) (.slice qv j dv) j _ rfl (by first | exact VJ.out.drew.alloc _ | exact (VJ.out.alloc _).drew | exact VJ.out.alloc _) _ 1 1 [.int .i64 t1, .int .i64 t2] rfl rfl ?_ ?_ ?_ ?_ ?_ ?_
    ·exact news2 _ t1 t2 rfl
    ·exact news1 t1 t2
    ·unfold maxLen; omega
    ·omega
    ·simp; omega
    intro v8 w8 hown8 hgrow _
    obtain ⟨qn, dn, rfl⟩ := own_slice hown8
    have hrow := row_base VJ.out
    have D8 : Hid (B7 w8 (w2.heap.size) (.int .i64 K) (.int .i64 B) (.int .i64 F) (.int .i64 R) (.int .i64 O) (.slice p zs.length c) (.slice qv j dv)) := Lib.hid (by first | exact (DJ.out.drew.alloc (Obj.cells #[Value.int .i64 t1, Value.int .i64 t2] 29)).grown hgrow (fun e => by have := hrow _ e.symm; omega) | exact (DJ.out.alloc (Obj.cells #[Value.int .i64 t1, Value.int .i64 t2] 29)).grown hgrow (fun e => by have := hrow _ e.symm; omega))
    have hsz8 : w2.heap.size + 1 <= w8.heap.size := by have := hgrow.size; simp at this; omega
    have V8 := Lib.hid hown8
    have hbA : Below (w2.heap.size + 1) wr w8 := by first | exact ((Below.refl _ _).drew.alloc hszr (Obj.cells #[Value.int .i64 t1, Value.int .i64 t2] 29)).grown hgrow (by simp; omega) (fun k e => hrow _ e) | exact ((Below.refl _ _).alloc hszr (Obj.cells #[Value.int .i64 t1, Value.int .i64 t2] 29)).grown hgrow (by simp; omega) (fun k e => hrow _ e)
    have K8 := Lib.hid (KJ.out.trans (hbA.mono (by omega)))
    have hNew : (w8.cell? ⟨w2.heap.size, 6, none⟩ = some (.slice qv j dv) /\ w8.cell? ⟨w.heap.size, 6, none⟩ = some (.slice (some ⟨vb, vo, none⟩) m d) /\ w8.cell? ⟨vb, vo + j * 2, none⟩ = some (.int .i64 t1) /\ w8.cell? ⟨vb, vo + j * 2 + 1, none⟩ = some (.int .i64 t2) /\ Below (w2.heap.size + 1) wr w8) := ⟨(World.cell?_of_block (hbA.block (w2.heap.size) (by omega))).trans m6, (World.cell?_of_block (hbA.block (w.heap.size) (by omega))).trans c6, (World.cell?_of_block (hbA.block (vb) (by omega))).trans v0, (World.cell?_of_block (hbA.block (vb) (by omega))).trans v1, hbA⟩
    first | (refine hK.out _ _ (fun _ => hNew) (fun hHeld => ?_)) | (refine hK.out _ _ hNew (fun hHeld => ?_))
    clear hK KK
    refine Rk.takeP (i := 9) (v := ?_) rfl (by kernel_rfl) (by kernel_rfl) (by kernel_rfl) (by kernel_rfl) (fun _ _ _ h => h) (Or.inl ⟨by kernel_rfl, ?_⟩) (by assumption) ?_
    rotate_left
    ·((intro w hSw; go_simp) <;> with_reducible rfl)
    try simp only [Act.put, List.setIfInBounds_toArray, List.set_cons_zero, List.set_cons_succ]
    refine Rk.tail [10] [_] (by kernel_rfl) (by kernel_rfl) rfl (by decide) ?_
    obtain ⟨⟨m0, m1, m2, m3, m4, m5, m6⟩, ⟨g0, g1, g2, g3, g4, g5, g6⟩⟩ := D8.out
    have lD8 := D8.out.lt
    clear hHeld HS hgrow hown8 hNew hrow
    go_wp2_with fail
    go_roundw
    case rel =>
     first
     | exact ⟨j + 1, qn, dn, by simp, by omega, Lib.hid D8.out.set6, Lib.hid (by (try subst hjk); rw [HSN.out, flV_snoc]; exact own_set V8.out (by dsimp only; omega)), Lib.hid (K8.out.setCell (p := ⟨w2.heap.size, 6, none⟩) (by dsimp only; omega) _), by rw [World.size_setCell]; omega⟩
     | exact ⟨j + 1, by simp, by omega, qn, dn, Lib.hid D8.out.set6, Lib.hid (by (try subst hjk); rw [HSN.out, flV_snoc]; exact own_set V8.out (by dsimp only; omega)), Lib.hid (K8.out.setCell (p := ⟨w2.heap.size, 6, none⟩) (by dsimp only; omega) _), by omega⟩
    case measure => simp [intOf]; omega
  ·obtain rfl : j = m := by omega
   have gN : decide ((j : Int) < j) = false := by simp
   have RJ := Lib.hid (B7.keep KJ.out (by omega) RZ.out)
   obtain ⟨⟨z0, z1, z2, z3, z4, z5, z6⟩, ⟨f0, f1, f2, f3, f4, f5, f6⟩⟩ := RJ.out
   have lr : w.heap.size + 1 + 1 < wr.heap.size := RJ.out.lt
   have KW := KB2.out.trans (KJ.out.mono (by omega))
   go_upto_region 13 with fail
   repeat go_step
   have SBB := (((((((KW).setCell (p := ⟨w.heap.size + 1 + 1, 0, none⟩) (by dsimp only; omega) (.int .i64 K)).setCell (p := ⟨w.heap.size + 1 + 1, 1, none⟩) (by dsimp only; omega) (.int .i64 B)).setCell (p := ⟨w.heap.size + 1 + 1, 2, none⟩) (by dsimp only; omega) (.int .i64 F)).setCell (p := ⟨w.heap.size + 1 + 1, 3, none⟩) (by dsimp only; omega) (.int .i64 R)).setCell (p := ⟨w.heap.size + 1 + 1, 4, none⟩) (by dsimp only; omega) (.int .i64 O)).setCell (p := ⟨w.heap.size + 1 + 1, 5, none⟩) (by dsimp only; omega) (.slice p zs.length c)).setCell (p := ⟨w.heap.size + 1 + 1, 6, none⟩) (by dsimp only; omega) (.slice qv j dv)
   have hlv : ((vs.set k (a, a')).take j).length = j := by rw [List.length_take, List.length_set, HM.out]; omega
   have hlf : (vs.set k (a, a')).take j = vs.set k (a, a') := List.take_of_length_le (by rw [List.length_set, HM.out]; exact Nat.le_refl _)
   refine bodyPost_ret (v := .tuple #[Tn K B F R O p zs.length c qv j dv, .int .i64 0]) (by simp [results, Tryz.results26, go_sem, z0, f0, z1, f1, z2, f2, z3, f3, z4, f4, z5, f5, z6, f6, lr, Tn]) rfl ⟨qv, dv, rfl, ?_, SBB⟩
   rw [<- hlf]
   exact SlV_of (own_set (own_set (own_set (own_set (own_set (own_set (own_set VJ.out (by dsimp only; omega)) (by dsimp only; omega)) (by dsimp only; omega)) (by dsimp only; omega)) (by dsimp only; omega)) (by dsimp only; omega)) (by dsimp only; omega)) hlv
end Go.Proofs.YteaaikmejacpaaaGreatDoor.Te

/- Tensors: the statement on At and Set of the reference. -/
namespace Go.Proofs.YteaaikmejacpaaaGreatDoor.Te
open Go.ChangeShapes Go.WideShapes Go.ChangeAt Go.RowKit
open Fx Va Sh
set_option maxRecDepth 8000
set_option linter.unusedVariables false
set_option linter.unusedSimpArgs false

/-- A tensor as an answer: its rows read as the lists. -/
def TS (K B F R O : Int) (zs : List Int) (vs : List (Int × Int)) (er : Int) (w : World) (e : Ending) (w' : World) : Prop := ∃ p c q d, e = .returned (.tuple #[Tn K B F R O p zs.length c q vs.length d, .int .i64 er]) /\ SlI w' p zs /\ SlV w' q vs /\ Below w.heap.size w w'
theorem TRes.ts {K B F R O : Int} {zs : List Int} {vs : List (Int × Int)} {er : Int} {w : World} {e : Ending} {w' : World} (h : TRes K B F R O zs vs er w e w') : TS K B F R O zs vs er w e w' := by
 obtain ⟨p, c, q, d, he, o1, o2, hb⟩ := h
 exact ⟨p, c, q, d, he, SlI_of o1 rfl, SlV_of o2 rfl, hb⟩

set_option maxRecDepth 100000 in
set_option maxHeartbeats 2000000 in
theorem el_a (K B F R O : Int) (p : Option Addr) (zs : List Int) (c : Nat) (q : Option Addr) (vs : List (Int × Int)) (d : Nat) (a a' : Int) (x : Option Addr) (xs : List Int) (e : Nat) (w : World) (b0 : -9223372036854775808 <= B) (b1 : B <= 9223372036854775807) (hn : zs.length <= maxLen) (hm : vs.length <= maxLen) (hx : xs.length <= maxLen) (RA : Hid (SlI w p zs)) (RB : Hid (SlV w q vs)) (RX : Hid (SlI w x xs)) (hLA : Tx.LA w) (hs : (decide ((vs.length : Int) <= 5000) && decide (zs.length <= 20)) = false) :
  Calls Tryz.prog 5 #[Tn K B F R O p zs.length c q vs.length d, .agg #[.int .i64 a, .int .i64 a'], .slice x xs.length e] w fun en w' => en = .returned (.bool true) /\ Below w.heap.size w w' := by
 have HLA := Lib.hid hLA
 have EX := Lib.hid fun u h => exam12 u h
 have SM0 := fun u => tsmall K B F R O p zs.length c q vs.length d 5000 u
 rw [hs] at SM0
 have SM := Lib.hid SM0
 obtain ⟨m, hmm⟩ : ∃ m, vs.length = m := ⟨_, rfl⟩
 rw [hmm] at SM ⊢
 have KB : Hid (Below w.heap.size w ((w.alloc (Obj.cells #[Value.int .i64 K, Value.int .i64 B, Value.int .i64 F, Value.int .i64 R, Value.int .i64 O, Value.slice p zs.length c, Value.slice q m d] 27)).alloc (Obj.cells #[Value.int .i64 a, Value.int .i64 a'] 29))) := Lib.hid (((Below.refl _ _).alloc (Nat.le_refl _) _).alloc (by simp) _)
 have TB : Hid (B7 ((w.alloc (Obj.cells #[Value.int .i64 K, Value.int .i64 B, Value.int .i64 F, Value.int .i64 R, Value.int .i64 O, Value.slice p zs.length c, Value.slice q m d] 27)).alloc (Obj.cells #[Value.int .i64 a, Value.int .i64 a'] 29)) (w.heap.size) (.int .i64 K) (.int .i64 B) (.int .i64 F) (.int .i64 R) (.int .i64 O) (.slice p zs.length c) (.slice q m d)) := Lib.hid ((B7.new w _ (.int .i64 K) (.int .i64 B) (.int .i64 F) (.int .i64 R) (.int .i64 O) (.slice p zs.length c) (.slice q m d)).alloc _)
 have y0 : ((w.alloc (Obj.cells #[Value.int .i64 K, Value.int .i64 B, Value.int .i64 F, Value.int .i64 R, Value.int .i64 O, Value.slice p zs.length c, Value.slice q m d] 27)).alloc (Obj.cells #[Value.int .i64 a, Value.int .i64 a'] 29)).cell? ⟨w.heap.size + 1, 0, none⟩ = some (.int .i64 a) := by go_cell
 have y1 : ((w.alloc (Obj.cells #[Value.int .i64 K, Value.int .i64 B, Value.int .i64 F, Value.int .i64 R, Value.int .i64 O, Value.slice p zs.length c, Value.slice q m d] 27)).alloc (Obj.cells #[Value.int .i64 a, Value.int .i64 a'] 29)).cell? ⟨w.heap.size + 1, 1, none⟩ = some (.int .i64 a') := by go_cell
 clear hs SM0 hm hmm
 unfold Tn at *
 go_enter Tryz.func5, Tryz.ntmps5
 go_wp2_with (first | (go_at_call 14; (with_reducible refine (SM.out _).mono ?_); rintro e w1 ⟨rfl, hb⟩; have KN := KB.out.trans (hb.mono KB.out.size); have TN9 := B7.keep hb TB.out.lt TB.out; have yl := World.block_lt_of_cell? _ _ y0; have y0 := Rg.keep hb yl y0; have y1 := Rg.keep hb yl y1; have KB := Lib.hid KN; have TB := Lib.hid TN9; obtain ⟨⟨c0, c1, c2, c3, c4, c5, c6⟩, -⟩ := TB.out; have lt9 : w.heap.size < w1.heap.size := TB.out.lt; have ly9 : w.heap.size + 1 < w1.heap.size := World.block_lt_of_cell? _ _ y0; clear KN TN9 yl; clear hb) | (go_at_call 15; (with_reducible refine (EX.out _ (HLA.out.below KB.out)).mono ?_); rintro e wX ⟨rfl, hb⟩; have KX := Lib.hid (KB.out.trans (hb.mono KB.out.size)); clear hb))
 go_ret
 exact ⟨rfl, KX.out⟩

set_option maxRecDepth 100000 in
set_option maxHeartbeats 2000000 in
theorem el_b (K B F R O : Int) (p : Option Addr) (zs : List Int) (c : Nat) (q : Option Addr) (vs : List (Int × Int)) (d : Nat) (a a' : Int) (x : Option Addr) (xs : List Int) (e : Nat) (w : World) (b0 : -9223372036854775808 <= B) (b1 : B <= 9223372036854775807) (hn : zs.length <= maxLen) (hm : vs.length <= maxLen) (hx : xs.length <= maxLen) (RA : Hid (SlI w p zs)) (RB : Hid (SlV w q vs)) (RX : Hid (SlI w x xs)) (hLA : Tx.LA w) (hs : (decide ((vs.length : Int) <= 5000) && decide (zs.length <= 20)) = true) (hl : 20 < xs.length) :
  Calls Tryz.prog 5 #[Tn K B F R O p zs.length c q vs.length d, .agg #[.int .i64 a, .int .i64 a'], .slice x xs.length e] w fun en w' => en = .returned (.bool true) /\ Below w.heap.size w w' := by
 have HLA := Lib.hid hLA
 have EX := Lib.hid fun u h => exam12 u h
 have SM0 := fun u => tsmall K B F R O p zs.length c q vs.length d 5000 u
 rw [hs] at SM0
 have SM := Lib.hid SM0
 have g1 : decide ((20 : Int) < xs.length) = true := by simp; omega
 have g2 : decide (20 < xs.length) = true := by simpa using hl
 obtain ⟨m, hmm⟩ : ∃ m, vs.length = m := ⟨_, rfl⟩
 rw [hmm] at SM ⊢
 have KB : Hid (Below w.heap.size w ((w.alloc (Obj.cells #[Value.int .i64 K, Value.int .i64 B, Value.int .i64 F, Value.int .i64 R, Value.int .i64 O, Value.slice p zs.length c, Value.slice q m d] 27)).alloc (Obj.cells #[Value.int .i64 a, Value.int .i64 a'] 29))) := Lib.hid (((Below.refl _ _).alloc (Nat.le_refl _) _).alloc (by simp) _)
 have TB : Hid (B7 ((w.alloc (Obj.cells #[Value.int .i64 K, Value.int .i64 B, Value.int .i64 F, Value.int .i64 R, Value.int .i64 O, Value.slice p zs.length c, Value.slice q m d] 27)).alloc (Obj.cells #[Value.int .i64 a, Value.int .i64 a'] 29)) (w.heap.size) (.int .i64 K) (.int .i64 B) (.int .i64 F) (.int .i64 R) (.int .i64 O) (.slice p zs.length c) (.slice q m d)) := Lib.hid ((B7.new w _ (.int .i64 K) (.int .i64 B) (.int .i64 F) (.int .i64 R) (.int .i64 O) (.slice p zs.length c) (.slice q m d)).alloc _)
 have y0 : ((w.alloc (Obj.cells #[Value.int .i64 K, Value.int .i64 B, Value.int .i64 F, Value.int .i64 R, Value.int .i64 O, Value.slice p zs.length c, Value.slice q m d] 27)).alloc (Obj.cells #[Value.int .i64 a, Value.int .i64 a'] 29)).cell? ⟨w.heap.size + 1, 0, none⟩ = some (.int .i64 a) := by go_cell
 have y1 : ((w.alloc (Obj.cells #[Value.int .i64 K, Value.int .i64 B, Value.int .i64 F, Value.int .i64 R, Value.int .i64 O, Value.slice p zs.length c, Value.slice q m d] 27)).alloc (Obj.cells #[Value.int .i64 a, Value.int .i64 a'] 29)).cell? ⟨w.heap.size + 1, 1, none⟩ = some (.int .i64 a') := by go_cell
 clear hs SM0 hm hmm
 unfold Tn at *
 go_enter Tryz.func5, Tryz.ntmps5
 go_wp2_with (first | (go_at_call 14; (with_reducible refine (SM.out _).mono ?_); rintro e w1 ⟨rfl, hb⟩; have KN := KB.out.trans (hb.mono KB.out.size); have TN9 := B7.keep hb TB.out.lt TB.out; have yl := World.block_lt_of_cell? _ _ y0; have y0 := Rg.keep hb yl y0; have y1 := Rg.keep hb yl y1; have KB := Lib.hid KN; have TB := Lib.hid TN9; obtain ⟨⟨c0, c1, c2, c3, c4, c5, c6⟩, -⟩ := TB.out; have lt9 : w.heap.size < w1.heap.size := TB.out.lt; have ly9 : w.heap.size + 1 < w1.heap.size := World.block_lt_of_cell? _ _ y0; clear KN TN9 yl; clear hb) | (go_at_call 15; (with_reducible refine (EX.out _ (HLA.out.below KB.out)).mono ?_); rintro e wX ⟨rfl, hb⟩; have KX := Lib.hid (KB.out.trans (hb.mono KB.out.size)); clear hb))
 go_ret
 exact ⟨rfl, KX.out⟩

set_option maxRecDepth 100000 in
set_option maxHeartbeats 2000000 in
theorem el_go (K B F R O : Int) (p : Option Addr) (zs : List Int) (c : Nat) (q : Option Addr) (vs : List (Int × Int)) (d : Nat) (a a' : Int) (x : Option Addr) (xs : List Int) (e : Nat) (w : World) (b0 : -9223372036854775808 <= B) (b1 : B <= 9223372036854775807) (hn : zs.length <= maxLen) (hm : vs.length <= maxLen) (hx : xs.length <= maxLen) (RA : Hid (SlI w p zs)) (RB : Hid (SlV w q vs)) (RX : Hid (SlI w x xs)) (hLA : Tx.LA w) (r1 r2 f9 : Int) (K' B' F' R' O' : Int) (zs' : List Int) (vs' : List (Int × Int)) (E' : Int) (hz' : zs'.length <= maxLen) (hv' : vs'.length <= maxLen) (hs : (decide ((vs.length : Int) <= 5000) && decide (zs.length <= 20)) = true) (hl : ¬ 20 < xs.length) (AT0 : ∀ u, Hid (SlI u p zs) -> Hid (SlV u q vs) -> Hid (SlI u x xs) -> Calls Tryz.prog 24 #[Tn K B F R O p zs.length c q vs.length d, .slice x xs.length e] u fun en u' => en = .returned (.tuple #[.agg #[.int .i64 r1, .int .i64 r2], .int .i64 f9]) /\ Below u.heap.size u u') (RAT0 : ∀ u, Hid (SlI u p zs) -> Hid (SlV u q vs) -> Hid (SlI u x xs) -> Calls Tryz.prog 25 #[Tn K B F R O p zs.length c q vs.length d, .slice x xs.length e] u fun en u' => en = .returned (.tuple #[.agg #[.int .i64 r1, .int .i64 r2], .int .i64 f9]) /\ Below u.heap.size u u') (SET0 : ∀ u, Hid (SlI u p zs) -> Hid (SlV u q vs) -> Hid (SlI u x xs) -> Calls Tryz.prog 23 #[Tn K B F R O p zs.length c q vs.length d, .agg #[.int .i64 a, .int .i64 a'], .slice x xs.length e] u (TS K' B' F' R' O' zs' vs' E' u)) (RST0 : ∀ u, Hid (SlI u p zs) -> Hid (SlV u q vs) -> Hid (SlI u x xs) -> Calls Tryz.prog 26 #[Tn K B F R O p zs.length c q vs.length d, .agg #[.int .i64 a, .int .i64 a'], .slice x xs.length e] u (TS K' B' F' R' O' zs' vs' E' u)) :
  Calls Tryz.prog 5 #[Tn K B F R O p zs.length c q vs.length d, .agg #[.int .i64 a, .int .i64 a'], .slice x xs.length e] w fun en w' => en = .returned (.bool true) /\ Below w.heap.size w w' := by
 have HLA := Lib.hid hLA
 have EX := Lib.hid fun u h => exam12 u h
 have SM0 := fun u => tsmall K B F R O p zs.length c q vs.length d 5000 u
 rw [hs] at SM0
 have SM := Lib.hid SM0
 have BTT0 := fun p4 p5 kc4 kc5 q4 q5 d4 d5 u h1 h2 h3 h4 => bten K' B' F' R' O' p4 p5 zs' kc4 kc5 q4 q5 vs' d4 d5 u hz' hv' h1 h2 h3 h4
 unfold TS at SET0 RST0
 have g1 : decide ((20 : Int) < xs.length) = false := by simp; omega
 have g2 : decide (20 < xs.length) = false := by simpa using hl
 obtain ⟨n3, hn3⟩ : ∃ n, zs'.length = n := ⟨_, rfl⟩
 obtain ⟨m3, hm3⟩ : ∃ n, vs'.length = n := ⟨_, rfl⟩
 obtain ⟨m, hmm⟩ : ∃ m, vs.length = m := ⟨_, rfl⟩
 rw [hmm] at SM AT0 RAT0 SET0 RST0 ⊢
 rw [hn3, hm3] at SET0 RST0 BTT0
 unfold Tn at *
 have AT := Lib.hid AT0
 have RAT := Lib.hid RAT0
 have SET := Lib.hid SET0
 have RST := Lib.hid RST0
 have BTT := Lib.hid BTT0
 clear hs SM0 hm hmm AT0 RAT0 SET0 RST0 BTT0 hn3 hm3 hz' hv'
 go_enter Tryz.func5, Tryz.ntmps5
 go_wp2_with (first | (go_at_call 14; (with_reducible refine (SM.out _).mono ?_); rintro e w1 ⟨rfl, hb⟩; have hW : Below w.heap.size w ((w.alloc (Obj.cells #[Value.int .i64 K, Value.int .i64 B, Value.int .i64 F, Value.int .i64 R, Value.int .i64 O, Value.slice p zs.length c, Value.slice q m d] 27)).alloc (Obj.cells #[Value.int .i64 a, Value.int .i64 a'] 29)) := ((Below.refl _ _).alloc (Nat.le_refl _) (Obj.cells #[Value.int .i64 K, Value.int .i64 B, Value.int .i64 F, Value.int .i64 R, Value.int .i64 O, Value.slice p zs.length c, Value.slice q m d] 27)).alloc (by simp) (Obj.cells #[Value.int .i64 a, Value.int .i64 a'] 29); have hX := hW.trans (hb.mono hW.size); have c0 : w1.cell? ⟨w.heap.size, 0, none⟩ = some (.int .i64 K) := Rg.keep hb (by first | omega | (simp; omega) | (simp; done)) (by go_cell); have c1 : w1.cell? ⟨w.heap.size, 1, none⟩ = some (.int .i64 B) := Rg.keep hb (by first | omega | (simp; omega) | (simp; done)) (by go_cell); have c2 : w1.cell? ⟨w.heap.size, 2, none⟩ = some (.int .i64 F) := Rg.keep hb (by first | omega | (simp; omega) | (simp; done)) (by go_cell); have c3 : w1.cell? ⟨w.heap.size, 3, none⟩ = some (.int .i64 R) := Rg.keep hb (by first | omega | (simp; omega) | (simp; done)) (by go_cell); have c4 : w1.cell? ⟨w.heap.size, 4, none⟩ = some (.int .i64 O) := Rg.keep hb (by first | omega | (simp; omega) | (simp; done)) (by go_cell); have c5 : w1.cell? ⟨w.heap.size, 5, none⟩ = some (.slice p zs.length c) := Rg.keep hb (by first | omega | (simp; omega) | (simp; done)) (by go_cell); have c6 : w1.cell? ⟨w.heap.size, 6, none⟩ = some (.slice q m d) := Rg.keep hb (by first | omega | (simp; omega) | (simp; done)) (by go_cell); have lc : w.heap.size < w1.heap.size := World.block_lt_of_cell? _ _ c0; have y0 : w1.cell? ⟨w.heap.size + 1, 0, none⟩ = some (.int .i64 a) := Rg.keep hb (by first | omega | (simp; omega) | (simp; done)) (by go_cell); have y1 : w1.cell? ⟨w.heap.size + 1, 1, none⟩ = some (.int .i64 a') := Rg.keep hb (by first | omega | (simp; omega) | (simp; done)) (by go_cell); have ly : w.heap.size + 1 < w1.heap.size := World.block_lt_of_cell? _ _ y0; have KB := Lib.hid hX; clear hb hW hX) | (go_at_call 24; (with_reducible refine (AT.out _ (Lib.hid (SlI.keep KB.out RA.out)) (Lib.hid (SlV.below RB.out KB.out)) (Lib.hid (SlI.keep KB.out RX.out))).mono ?_); rintro e w2 ⟨rfl, hb⟩; have hW : Below w1.heap.size w1 w1 := Below.refl _ _; have hX := hW.trans (hb.mono hW.size); have c0 : w2.cell? ⟨w.heap.size, 0, none⟩ = some (.int .i64 K) := Rg.keep hb (by first | omega | (simp; omega) | (simp; done)) (by go_cell); have c1 : w2.cell? ⟨w.heap.size, 1, none⟩ = some (.int .i64 B) := Rg.keep hb (by first | omega | (simp; omega) | (simp; done)) (by go_cell); have c2 : w2.cell? ⟨w.heap.size, 2, none⟩ = some (.int .i64 F) := Rg.keep hb (by first | omega | (simp; omega) | (simp; done)) (by go_cell); have c3 : w2.cell? ⟨w.heap.size, 3, none⟩ = some (.int .i64 R) := Rg.keep hb (by first | omega | (simp; omega) | (simp; done)) (by go_cell); have c4 : w2.cell? ⟨w.heap.size, 4, none⟩ = some (.int .i64 O) := Rg.keep hb (by first | omega | (simp; omega) | (simp; done)) (by go_cell); have c5 : w2.cell? ⟨w.heap.size, 5, none⟩ = some (.slice p zs.length c) := Rg.keep hb (by first | omega | (simp; omega) | (simp; done)) (by go_cell); have c6 : w2.cell? ⟨w.heap.size, 6, none⟩ = some (.slice q m d) := Rg.keep hb (by first | omega | (simp; omega) | (simp; done)) (by go_cell); have lc : w.heap.size < w2.heap.size := World.block_lt_of_cell? _ _ c0; have y0 : w2.cell? ⟨w.heap.size + 1, 0, none⟩ = some (.int .i64 a) := Rg.keep hb (by first | omega | (simp; omega) | (simp; done)) (by go_cell); have y1 : w2.cell? ⟨w.heap.size + 1, 1, none⟩ = some (.int .i64 a') := Rg.keep hb (by first | omega | (simp; omega) | (simp; done)) (by go_cell); have ly : w.heap.size + 1 < w2.heap.size := World.block_lt_of_cell? _ _ y0; replace KB := Lib.hid (KB.out.trans (hX.mono KB.out.size)); clear hb hW hX) | (go_at_call 25; (with_reducible refine (RAT.out _ (Lib.hid (SlI.keep (KB.out.alloc KB.out.size (Obj.cells #[Value.int .i64 r1, Value.int .i64 r2] 29)) RA.out)) (Lib.hid (SlV.below RB.out (KB.out.alloc KB.out.size (Obj.cells #[Value.int .i64 r1, Value.int .i64 r2] 29)))) (Lib.hid (SlI.keep (KB.out.alloc KB.out.size (Obj.cells #[Value.int .i64 r1, Value.int .i64 r2] 29)) RX.out))).mono ?_); rintro e w3 ⟨rfl, hb⟩; have hW : Below w2.heap.size w2 (w2.alloc (Obj.cells #[Value.int .i64 r1, Value.int .i64 r2] 29)) := (Below.refl _ _).alloc (Nat.le_refl _) (Obj.cells #[Value.int .i64 r1, Value.int .i64 r2] 29); have hX := hW.trans (hb.mono hW.size); have c0 : w3.cell? ⟨w.heap.size, 0, none⟩ = some (.int .i64 K) := Rg.keep hb (by first | omega | (simp; omega) | (simp; done)) (by go_cell); have c1 : w3.cell? ⟨w.heap.size, 1, none⟩ = some (.int .i64 B) := Rg.keep hb (by first | omega | (simp; omega) | (simp; done)) (by go_cell); have c2 : w3.cell? ⟨w.heap.size, 2, none⟩ = some (.int .i64 F) := Rg.keep hb (by first | omega | (simp; omega) | (simp; done)) (by go_cell); have c3 : w3.cell? ⟨w.heap.size, 3, none⟩ = some (.int .i64 R) := Rg.keep hb (by first | omega | (simp; omega) | (simp; done)) (by go_cell); have c4 : w3.cell? ⟨w.heap.size, 4, none⟩ = some (.int .i64 O) := Rg.keep hb (by first | omega | (simp; omega) | (simp; done)) (by go_cell); have c5 : w3.cell? ⟨w.heap.size, 5, none⟩ = some (.slice p zs.length c) := Rg.keep hb (by first | omega | (simp; omega) | (simp; done)) (by go_cell); have c6 : w3.cell? ⟨w.heap.size, 6, none⟩ = some (.slice q m d) := Rg.keep hb (by first | omega | (simp; omega) | (simp; done)) (by go_cell); have lc : w.heap.size < w3.heap.size := World.block_lt_of_cell? _ _ c0; have y0 : w3.cell? ⟨w.heap.size + 1, 0, none⟩ = some (.int .i64 a) := Rg.keep hb (by first | omega | (simp; omega) | (simp; done)) (by go_cell); have y1 : w3.cell? ⟨w.heap.size + 1, 1, none⟩ = some (.int .i64 a') := Rg.keep hb (by first | omega | (simp; omega) | (simp; done)) (by go_cell); have ly : w.heap.size + 1 < w3.heap.size := World.block_lt_of_cell? _ _ y0; have n0 : w3.cell? ⟨w2.heap.size, 0, none⟩ = some (.int .i64 r1) := Rg.keep hb (by first | omega | (simp; omega) | (simp; done)) (by go_cell); have n1 : w3.cell? ⟨w2.heap.size, 1, none⟩ = some (.int .i64 r2) := Rg.keep hb (by first | omega | (simp; omega) | (simp; done)) (by go_cell); have ln : w2.heap.size < w3.heap.size := World.block_lt_of_cell? _ _ n0; replace KB := Lib.hid (KB.out.trans (hX.mono KB.out.size)); clear hb hW hX) | (go_at_call 23; (with_reducible refine (SET.out _ (Lib.hid (SlI.keep (KB.out.alloc KB.out.size (Obj.cells #[Value.int .i64 r1, Value.int .i64 r2] 29)) RA.out)) (Lib.hid (SlV.below RB.out (KB.out.alloc KB.out.size (Obj.cells #[Value.int .i64 r1, Value.int .i64 r2] 29)))) (Lib.hid (SlI.keep (KB.out.alloc KB.out.size (Obj.cells #[Value.int .i64 r1, Value.int .i64 r2] 29)) RX.out))).mono ?_); rintro e w4 ⟨p4, kc4, q4, d4, rfl, hsi, hsv, hb⟩; have hW : Below w3.heap.size w3 (w3.alloc (Obj.cells #[Value.int .i64 r1, Value.int .i64 r2] 29)) := (Below.refl _ _).alloc (Nat.le_refl _) (Obj.cells #[Value.int .i64 r1, Value.int .i64 r2] 29); have hX := hW.trans (hb.mono hW.size); have c0 : w4.cell? ⟨w.heap.size, 0, none⟩ = some (.int .i64 K) := Rg.keep hb (by first | omega | (simp; omega) | (simp; done)) (by go_cell); have c1 : w4.cell? ⟨w.heap.size, 1, none⟩ = some (.int .i64 B) := Rg.keep hb (by first | omega | (simp; omega) | (simp; done)) (by go_cell); have c2 : w4.cell? ⟨w.heap.size, 2, none⟩ = some (.int .i64 F) := Rg.keep hb (by first | omega | (simp; omega) | (simp; done)) (by go_cell); have c3 : w4.cell? ⟨w.heap.size, 3, none⟩ = some (.int .i64 R) := Rg.keep hb (by first | omega | (simp; omega) | (simp; done)) (by go_cell); have c4 : w4.cell? ⟨w.heap.size, 4, none⟩ = some (.int .i64 O) := Rg.keep hb (by first | omega | (simp; omega) | (simp; done)) (by go_cell); have c5 : w4.cell? ⟨w.heap.size, 5, none⟩ = some (.slice p zs.length c) := Rg.keep hb (by first | omega | (simp; omega) | (simp; done)) (by go_cell); have c6 : w4.cell? ⟨w.heap.size, 6, none⟩ = some (.slice q m d) := Rg.keep hb (by first | omega | (simp; omega) | (simp; done)) (by go_cell); have lc : w.heap.size < w4.heap.size := World.block_lt_of_cell? _ _ c0; have y0 : w4.cell? ⟨w.heap.size + 1, 0, none⟩ = some (.int .i64 a) := Rg.keep hb (by first | omega | (simp; omega) | (simp; done)) (by go_cell); have y1 : w4.cell? ⟨w.heap.size + 1, 1, none⟩ = some (.int .i64 a') := Rg.keep hb (by first | omega | (simp; omega) | (simp; done)) (by go_cell); have ly : w.heap.size + 1 < w4.heap.size := World.block_lt_of_cell? _ _ y0; have n0 : w4.cell? ⟨w2.heap.size, 0, none⟩ = some (.int .i64 r1) := Rg.keep hb (by first | omega | (simp; omega) | (simp; done)) (by go_cell); have n1 : w4.cell? ⟨w2.heap.size, 1, none⟩ = some (.int .i64 r2) := Rg.keep hb (by first | omega | (simp; omega) | (simp; done)) (by go_cell); have ln : w2.heap.size < w4.heap.size := World.block_lt_of_cell? _ _ n0; have o0 : w4.cell? ⟨w3.heap.size, 0, none⟩ = some (.int .i64 r1) := Rg.keep hb (by first | omega | (simp; omega) | (simp; done)) (by go_cell); have o1 : w4.cell? ⟨w3.heap.size, 1, none⟩ = some (.int .i64 r2) := Rg.keep hb (by first | omega | (simp; omega) | (simp; done)) (by go_cell); have lo : w3.heap.size < w4.heap.size := World.block_lt_of_cell? _ _ o0; replace KB := Lib.hid (KB.out.trans (hX.mono KB.out.size)); have SI4 := Lib.hid hsi; have SV4 := Lib.hid hsv; have K4 := Lib.hid (Below.refl w4.heap.size w4); clear hb hW hX hsi hsv) | (go_at_call 26; (with_reducible refine (RST.out _ (Lib.hid (SlI.keep (KB.out.alloc KB.out.size (Obj.cells #[Value.int .i64 K', Value.int .i64 B', Value.int .i64 F', Value.int .i64 R', Value.int .i64 O', Value.slice p4 n3 kc4, Value.slice q4 m3 d4] 27)) RA.out)) (Lib.hid (SlV.below RB.out (KB.out.alloc KB.out.size (Obj.cells #[Value.int .i64 K', Value.int .i64 B', Value.int .i64 F', Value.int .i64 R', Value.int .i64 O', Value.slice p4 n3 kc4, Value.slice q4 m3 d4] 27)))) (Lib.hid (SlI.keep (KB.out.alloc KB.out.size (Obj.cells #[Value.int .i64 K', Value.int .i64 B', Value.int .i64 F', Value.int .i64 R', Value.int .i64 O', Value.slice p4 n3 kc4, Value.slice q4 m3 d4] 27)) RX.out))).mono ?_); rintro e w5 ⟨p5, kc5, q5, d5, rfl, hsi, hsv, hb⟩; have hW : Below w4.heap.size w4 (w4.alloc (Obj.cells #[Value.int .i64 K', Value.int .i64 B', Value.int .i64 F', Value.int .i64 R', Value.int .i64 O', Value.slice p4 n3 kc4, Value.slice q4 m3 d4] 27)) := (Below.refl _ _).alloc (Nat.le_refl _) (Obj.cells #[Value.int .i64 K', Value.int .i64 B', Value.int .i64 F', Value.int .i64 R', Value.int .i64 O', Value.slice p4 n3 kc4, Value.slice q4 m3 d4] 27); have hX := hW.trans (hb.mono hW.size); have c0 : w5.cell? ⟨w.heap.size, 0, none⟩ = some (.int .i64 K) := Rg.keep hb (by first | omega | (simp; omega) | (simp; done)) (by go_cell); have c1 : w5.cell? ⟨w.heap.size, 1, none⟩ = some (.int .i64 B) := Rg.keep hb (by first | omega | (simp; omega) | (simp; done)) (by go_cell); have c2 : w5.cell? ⟨w.heap.size, 2, none⟩ = some (.int .i64 F) := Rg.keep hb (by first | omega | (simp; omega) | (simp; done)) (by go_cell); have c3 : w5.cell? ⟨w.heap.size, 3, none⟩ = some (.int .i64 R) := Rg.keep hb (by first | omega | (simp; omega) | (simp; done)) (by go_cell); have c4 : w5.cell? ⟨w.heap.size, 4, none⟩ = some (.int .i64 O) := Rg.keep hb (by first | omega | (simp; omega) | (simp; done)) (by go_cell); have c5 : w5.cell? ⟨w.heap.size, 5, none⟩ = some (.slice p zs.length c) := Rg.keep hb (by first | omega | (simp; omega) | (simp; done)) (by go_cell); have c6 : w5.cell? ⟨w.heap.size, 6, none⟩ = some (.slice q m d) := Rg.keep hb (by first | omega | (simp; omega) | (simp; done)) (by go_cell); have lc : w.heap.size < w5.heap.size := World.block_lt_of_cell? _ _ c0; have y0 : w5.cell? ⟨w.heap.size + 1, 0, none⟩ = some (.int .i64 a) := Rg.keep hb (by first | omega | (simp; omega) | (simp; done)) (by go_cell); have y1 : w5.cell? ⟨w.heap.size + 1, 1, none⟩ = some (.int .i64 a') := Rg.keep hb (by first | omega | (simp; omega) | (simp; done)) (by go_cell); have ly : w.heap.size + 1 < w5.heap.size := World.block_lt_of_cell? _ _ y0; have n0 : w5.cell? ⟨w2.heap.size, 0, none⟩ = some (.int .i64 r1) := Rg.keep hb (by first | omega | (simp; omega) | (simp; done)) (by go_cell); have n1 : w5.cell? ⟨w2.heap.size, 1, none⟩ = some (.int .i64 r2) := Rg.keep hb (by first | omega | (simp; omega) | (simp; done)) (by go_cell); have ln : w2.heap.size < w5.heap.size := World.block_lt_of_cell? _ _ n0; have o0 : w5.cell? ⟨w3.heap.size, 0, none⟩ = some (.int .i64 r1) := Rg.keep hb (by first | omega | (simp; omega) | (simp; done)) (by go_cell); have o1 : w5.cell? ⟨w3.heap.size, 1, none⟩ = some (.int .i64 r2) := Rg.keep hb (by first | omega | (simp; omega) | (simp; done)) (by go_cell); have lo : w3.heap.size < w5.heap.size := World.block_lt_of_cell? _ _ o0; have e0 : w5.cell? ⟨w4.heap.size, 0, none⟩ = some (.int .i64 K') := Rg.keep hb (by first | omega | (simp; omega) | (simp; done)) (by go_cell); have e1 : w5.cell? ⟨w4.heap.size, 1, none⟩ = some (.int .i64 B') := Rg.keep hb (by first | omega | (simp; omega) | (simp; done)) (by go_cell); have e2 : w5.cell? ⟨w4.heap.size, 2, none⟩ = some (.int .i64 F') := Rg.keep hb (by first | omega | (simp; omega) | (simp; done)) (by go_cell); have e3 : w5.cell? ⟨w4.heap.size, 3, none⟩ = some (.int .i64 R') := Rg.keep hb (by first | omega | (simp; omega) | (simp; done)) (by go_cell); have e4 : w5.cell? ⟨w4.heap.size, 4, none⟩ = some (.int .i64 O') := Rg.keep hb (by first | omega | (simp; omega) | (simp; done)) (by go_cell); have e5 : w5.cell? ⟨w4.heap.size, 5, none⟩ = some (.slice p4 n3 kc4) := Rg.keep hb (by first | omega | (simp; omega) | (simp; done)) (by go_cell); have e6 : w5.cell? ⟨w4.heap.size, 6, none⟩ = some (.slice q4 m3 d4) := Rg.keep hb (by first | omega | (simp; omega) | (simp; done)) (by go_cell); have le : w4.heap.size < w5.heap.size := World.block_lt_of_cell? _ _ e0; replace KB := Lib.hid (KB.out.trans (hX.mono KB.out.size)); replace K4 := Lib.hid (K4.out.trans (hX.mono K4.out.size)); have SI5 := Lib.hid hsi; have SV5 := Lib.hid hsv; have K5 := Lib.hid (Below.refl w5.heap.size w5); clear hb hW hX hsi hsv) | (go_at_call 22; (with_reducible refine (BTT.out p4 p5 kc4 kc5 q4 q5 d4 d5 _ (Lib.hid (SlI.keep (K4.out.alloc K4.out.size (Obj.cells #[Value.int .i64 K', Value.int .i64 B', Value.int .i64 F', Value.int .i64 R', Value.int .i64 O', Value.slice p5 n3 kc5, Value.slice q5 m3 d5] 27)) SI4.out)) (Lib.hid (SlV.below SV4.out (K4.out.alloc K4.out.size (Obj.cells #[Value.int .i64 K', Value.int .i64 B', Value.int .i64 F', Value.int .i64 R', Value.int .i64 O', Value.slice p5 n3 kc5, Value.slice q5 m3 d5] 27)))) (Lib.hid (SlI.keep (K5.out.alloc K5.out.size (Obj.cells #[Value.int .i64 K', Value.int .i64 B', Value.int .i64 F', Value.int .i64 R', Value.int .i64 O', Value.slice p5 n3 kc5, Value.slice q5 m3 d5] 27)) SI5.out)) (Lib.hid (SlV.below SV5.out (K5.out.alloc K5.out.size (Obj.cells #[Value.int .i64 K', Value.int .i64 B', Value.int .i64 F', Value.int .i64 R', Value.int .i64 O', Value.slice p5 n3 kc5, Value.slice q5 m3 d5] 27))))).mono ?_); rintro e w6 ⟨rfl, hb⟩; have hW : Below w5.heap.size w5 (w5.alloc (Obj.cells #[Value.int .i64 K', Value.int .i64 B', Value.int .i64 F', Value.int .i64 R', Value.int .i64 O', Value.slice p5 n3 kc5, Value.slice q5 m3 d5] 27)) := (Below.refl _ _).alloc (Nat.le_refl _) (Obj.cells #[Value.int .i64 K', Value.int .i64 B', Value.int .i64 F', Value.int .i64 R', Value.int .i64 O', Value.slice p5 n3 kc5, Value.slice q5 m3 d5] 27); have hX := hW.trans (hb.mono hW.size); have c0 : w6.cell? ⟨w.heap.size, 0, none⟩ = some (.int .i64 K) := Rg.keep hb (by first | omega | (simp; omega) | (simp; done)) (by go_cell); have c1 : w6.cell? ⟨w.heap.size, 1, none⟩ = some (.int .i64 B) := Rg.keep hb (by first | omega | (simp; omega) | (simp; done)) (by go_cell); have c2 : w6.cell? ⟨w.heap.size, 2, none⟩ = some (.int .i64 F) := Rg.keep hb (by first | omega | (simp; omega) | (simp; done)) (by go_cell); have c3 : w6.cell? ⟨w.heap.size, 3, none⟩ = some (.int .i64 R) := Rg.keep hb (by first | omega | (simp; omega) | (simp; done)) (by go_cell); have c4 : w6.cell? ⟨w.heap.size, 4, none⟩ = some (.int .i64 O) := Rg.keep hb (by first | omega | (simp; omega) | (simp; done)) (by go_cell); have c5 : w6.cell? ⟨w.heap.size, 5, none⟩ = some (.slice p zs.length c) := Rg.keep hb (by first | omega | (simp; omega) | (simp; done)) (by go_cell); have c6 : w6.cell? ⟨w.heap.size, 6, none⟩ = some (.slice q m d) := Rg.keep hb (by first | omega | (simp; omega) | (simp; done)) (by go_cell); have lc : w.heap.size < w6.heap.size := World.block_lt_of_cell? _ _ c0; replace KB := Lib.hid (KB.out.trans (hX.mono KB.out.size)); clear hb hW hX) | (go_at_call 15; (with_reducible refine (EX.out _ (HLA.out.below KB.out)).mono ?_); rintro e wX ⟨rfl, hb⟩; have KX := Lib.hid (KB.out.trans (hb.mono KB.out.size)); clear hb))
 go_ret
 exact ⟨rfl, KX.out⟩

set_option maxRecDepth 100000 in
set_option maxHeartbeats 2000000 in
theorem law_el (K B F R O : Int) (p : Option Addr) (zs : List Int) (c : Nat) (q : Option Addr) (vs : List (Int × Int)) (d : Nat) (a a' : Int) (x : Option Addr) (xs : List Int) (e : Nat) (w : World) (b0 : -9223372036854775808 <= B) (b1 : B <= 9223372036854775807) (hn : zs.length <= maxLen) (hm : vs.length <= maxLen) (hx : xs.length <= maxLen) (RA : Hid (SlI w p zs)) (RB : Hid (SlV w q vs)) (RX : Hid (SlI w x xs)) (hLA : Tx.LA w)  :
  Calls Tryz.prog 5 #[Tn K B F R O p zs.length c q vs.length d, .agg #[.int .i64 a, .int .i64 a'], .slice x xs.length e] w fun en w' => en = .returned (.bool true) /\ Below w.heap.size w w' := by
 cases hs : (decide ((vs.length : Int) <= 5000) && decide (zs.length <= 20))
 ·exact el_a K B F R O p zs c q vs d a a' x xs e w b0 b1 hn hm hx RA RB RX hLA hs
 ·by_cases hl : 20 < xs.length
  ·exact el_b K B F R O p zs c q vs d a a' x xs e w b0 b1 hn hm hx RA RB RX hLA hs hl
  ·have A1 := fun u h1 h2 h3 => tat K B F R O p zs c q vs d u b0 b1 hn hm h1 h2 x xs e hx h3
   have A2 := fun u h1 h2 h3 => rtat K B F R O p zs c q vs d u b0 b1 hn hm h1 h2 x xs e hx h3
   by_cases he : setE K B F R O zs vs xs a a' = 0
   ·have hloc : (loc K B F R O zs vs xs).2 = 0 := by
     unfold setE at he
     exact Classical.byContradiction fun h => by rw [if_pos h] at he; exact h he
    have hvv : vv K B F R O a a' = true := by
     unfold setE at he
     rw [if_neg (by simpa using hloc)] at he
     cases h : vv K B F R O a a'
     ·rw [h, if_pos rfl] at he; cases he
     ·rfl
    refine el_go K B F R O p zs c q vs d a a' x xs e w b0 b1 hn hm hx RA RB RX hLA _ _ _ K B F R O zs (vs.set (loc K B F R O zs vs xs).1.toNat (a, a')) 0 hn (by rw [List.length_set]; exact hm) hs hl A1 A2 ?_ ?_
    ·exact fun u h1 h2 h3 => (set_c K B F R O p zs c q vs d a a' u b0 b1 hn hm h1 h2 x xs e hx h3 hloc hvv).mono fun _ _ h => h.ts
    ·intro u h1 h2 h3
     refine (rset_c K B F R O p zs c q vs d a a' u b0 b1 hn hm h1 h2 x xs e hx h3 hloc hvv).mono fun _ _ h => ?_
     obtain ⟨q', d', he, hsv, hb⟩ := h
     exact ⟨p, c, q', d', by rw [List.length_set]; exact he, SlI.keep hb h1.out, hsv, hb⟩
   ·refine el_go K B F R O p zs c q vs d a a' x xs e w b0 b1 hn hm hx RA RB RX hLA _ _ _ 0 0 0 0 0 [] [] (setE K B F R O zs vs xs a a') (Nat.zero_le _) (Nat.zero_le _) hs hl A1 A2 ?_ ?_
    ·exact fun u h1 h2 h3 => (tset K B F R O p zs c q vs d a a' u b0 b1 hn hm h1 h2 x xs e hx h3).mono fun _ _ h => by
      rcases h with ⟨_, h⟩ | ⟨h, _⟩
      ·exact h.ts
      ·exact absurd h he
    ·intro u h1 h2 h3
     unfold setE at he ⊢
     by_cases hloc : (loc K B F R O zs vs xs).2 = 0
     ·rw [if_neg (by simpa using hloc)] at he ⊢
      cases hv : vv K B F R O a a'
      ·rw [if_pos rfl]
       exact (rset_b K B F R O p zs c q vs d a a' u b0 b1 hn hm h1 h2 x xs e hx h3 hloc hv).mono fun _ _ h => h.ts
      ·rw [hv, if_neg (by decide)] at he; exact absurd rfl he
     ·rw [if_pos hloc]
      exact (rset_a K B F R O p zs c q vs d a a' u b0 b1 hn hm h1 h2 x xs e hx h3 hloc).mono fun _ _ h => h.ts
end Go.Proofs.YteaaikmejacpaaaGreatDoor.Te
