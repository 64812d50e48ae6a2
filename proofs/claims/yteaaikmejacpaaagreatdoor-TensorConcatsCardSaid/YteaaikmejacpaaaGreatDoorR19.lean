/- Tensors: the functions at the examples. -/
import Derived.Test.YteaaikmejacpaaaGreatDoorR18
import Derived.Test.YteaaikmejacpaaaGreatDoorR13
import Derived.Test.YteaaikmejacpaaaGreatDoorR17
import Derived.Deep.Cut

namespace Go.Proofs.YteaaikmejacpaaaGreatDoor.Te
open Go.ChangeShapes Go.WideShapes Go.ChangeAt Go.RowKit
open Fx Va Sh
set_option maxRecDepth 8000
set_option linter.unusedVariables false
set_option linter.unusedSimpArgs false

/-- A tensor as an answer: its rows read as the lists. -/
def TU (K B F R O : Int) (zs : List Int) (vs : List (Int × Int)) (n m : Nat) (er : Int) (w : World) (e : Ending) (w' : World) : Prop := ∃ p c q d, e = .returned (.tuple #[.agg #[.int .i64 K, .int .i64 B, .int .i64 F, .int .i64 R, .int .i64 O, .slice p n c, .slice q m d], .int .i64 er]) /\ n <= c /\ c <= 9223372036854775807 /\ m <= d /\ d <= 9223372036854775807 /\ SlI w' p zs /\ SlV w' q vs /\ Below w.heap.size w w'
theorem own_cap {w : World} {B n c : Nat} {T : TypeId} {sz : Nat} {q : Option Addr} {xs : List Value} (h : w.ownsRow B T sz (.slice q n c) n xs) : n <= c /\ c <= 9223372036854775807 := by
 rcases h.2 with ⟨hv, h0⟩ | ⟨g, cap, cur, hv, _, _, h1, h2, _⟩
 ·cases hv; omega
 ·cases hv
  unfold maxLen at h2
  exact ⟨h1, by omega⟩
theorem TRes.tu {K B F R O : Int} {zs : List Int} {vs : List (Int × Int)} {n m : Nat} {er : Int} {w : World} {e : Ending} {w' : World} (h : TRes K B F R O zs vs er w e w') (hn : zs.length = n) (hm : vs.length = m) : TU K B F R O zs vs n m er w e w' := by
 obtain ⟨p, c, q, d, he, o1, o2, hb⟩ := h
 subst hn hm
 obtain ⟨a1, a2⟩ := own_cap o1
 obtain ⟨a3, a4⟩ := own_cap o2
 exact ⟨p, c, q, d, he, a1, a2, a3, a4, SlI_of o1 rfl, SlV_of o2 rfl, hb⟩
theorem itoa1 {n : Nat} (h : n < 10) : Lib.itoa (n : Int) = [UInt8.ofNat (48 + n)] := by
 unfold Lib.itoa
 rw [if_neg (by omega), Int.toNat_natCast, Lib.decDigits_eq, Lib.nDigits_small h]
 show [Lib.dg n (1 - 1 - 0)] = _
 have : Lib.dg n 0 = UInt8.ofNat (48 + n) := by
  unfold Lib.dg
  rw [show n / 10 ^ 0 % 10 = n by rw [Nat.pow_zero, Nat.div_one]; omega]
 rw [show 1 - 1 - 0 = 0 from rfl, this]
theorem vfm1 {n : Nat} (h : n < 10) : vfm 3 0 0 0 0 (n : Int) 1 = [UInt8.ofNat (48 + n)] := by
 have hv : vv 3 0 0 0 0 (n : Int) 1 = true := by rw [vv_int]; simp; omega
 unfold vfm
 rw [if_neg (by rw [hv]; decide)]
 unfold Tx.fmv
 rw [if_neg (by rw [rat_vld hv]; decide), if_pos (show (rat 3 0 (n : Int) 1).2 = 1 from rfl)]
 exact itoa1 h
theorem ex_t : tE 3 0 0 0 0 [2, 2] [(1, 1), (2, 1), (3, 1), (4, 1)] = 0 := by decide +kernel
theorem ex_new (p : Option Addr) (c : Nat) (q : Option Addr) (d : Nat) (w : World) (hc : 2 <= c) (hc2 : c <= 9223372036854775807) (hd : 4 <= d) (hd2 : d <= 9223372036854775807) (RA : Hid (SlI w p [2, 2])) (RB : Hid (SlV w q [(1, 1), (2, 1), (3, 1), (4, 1)])) : Calls Tryz.prog 16 #[.agg #[.int .i64 3, .int .i64 0, .int .i64 0, .int .i64 0, .int .i64 0], .slice p 2 c, .slice q 4 d] w (TU 3 0 0 0 0 [2, 2] [(1, 1), (2, 1), (3, 1), (4, 1)] 2 4 0 w) :=
 (tnew 3 0 0 0 0 p [2, 2] c q [(1, 1), (2, 1), (3, 1), (4, 1)] d w (by decide) (by decide) (by decide) (by decide) RA RB).mono fun e w' h => by
  rcases h with ⟨h1, _⟩ | ⟨_, h2⟩
  ·exact absurd ex_t h1
  ·exact h2.tu rfl rfl
theorem ex_red (p : Option Addr) (c : Nat) (q : Option Addr) (d : Nat) (w : World) (hc : 2 <= c) (hc2 : c <= 9223372036854775807) (hd : 4 <= d) (hd2 : d <= 9223372036854775807) (RA : Hid (SlI w p [2, 2])) (RB : Hid (SlV w q [(1, 1), (2, 1), (3, 1), (4, 1)])) : Calls Tryz.prog 33 #[.agg #[.int .i64 3, .int .i64 0, .int .i64 0, .int .i64 0, .int .i64 0, .slice p 2 c, .slice q 4 d], .int .i64 0, .int .i64 1] w (TU 3 0 0 0 0 [2] [(4, 1), (6, 1)] 1 2 0 w) :=
 (rd_e 3 0 0 0 0 p [2, 2] c q [(1, 1), (2, 1), (3, 1), (4, 1)] d 0 1 w (by decide) (by decide) (by decide) (by decide) RA RB ex_t (by decide) hc hc2 (by decide) (by decide) 1 2 2 (by decide) (by decide) (by decide) (by decide) (by decide) (by decide) (by decide) (by decide) (by decide) (by decide) (by decide)).mono fun e w' h => by
  rcases h with ⟨h1, _⟩ | ⟨_, h2⟩
  ·exact absurd (show fe (rdE 1 3 0 0 0 0 [(1, 1), (2, 1), (3, 1), (4, 1)] 2 2) (1 * 2) 0 = 0 by decide +kernel) h1
  ·rw [show ([2, 2] : List Int).take 0 ++ ([2, 2] : List Int).drop (0 + 1) = [2] from rfl, show rdVs 1 3 0 0 0 0 [(1, 1), (2, 1), (3, 1), (4, 1)] 2 2 (1 * 2) = [(4, 1), (6, 1)] by decide +kernel] at h2
   exact h2.tu rfl rfl
theorem ex_scan (p : Option Addr) (c : Nat) (q : Option Addr) (d : Nat) (w : World) (hc : 2 <= c) (hc2 : c <= 9223372036854775807) (hd : 4 <= d) (hd2 : d <= 9223372036854775807) (RA : Hid (SlI w p [2, 2])) (RB : Hid (SlV w q [(1, 1), (2, 1), (3, 1), (4, 1)])) : Calls Tryz.prog 33 #[.agg #[.int .i64 3, .int .i64 0, .int .i64 0, .int .i64 0, .int .i64 0, .slice p 2 c, .slice q 4 d], .int .i64 1, .int .i64 5] w (TU 3 0 0 0 0 [2, 2] [(1, 1), (3, 1), (3, 1), (7, 1)] 2 4 0 w) :=
 (rd_s 3 0 0 0 0 p [2, 2] c q [(1, 1), (2, 1), (3, 1), (4, 1)] d 1 5 w (by decide) (by decide) (by decide) (by decide) RA RB ex_t (by decide) hc hc2 rfl 2 2 1 (by decide) (by decide) (by decide) (by decide) (by decide) (by decide) (by decide) (by decide) (by decide) (by decide) (by decide)).mono fun e w' h => by
  rcases h with ⟨h1, _⟩ | ⟨_, h2⟩
  ·exact absurd (show fe (snE 3 0 0 0 0 [(1, 1), (2, 1), (3, 1), (4, 1)] 2 1) (2 * 1) 0 = 0 by decide +kernel) h1
  ·rw [show scA (fop 3 0 0 0 0) [(1, 1), (2, 1), (3, 1), (4, 1)] 2 1 (2 * 2 * 1) = [(1, 1), (3, 1), (3, 1), (7, 1)] by decide +kernel] at h2
   exact h2.tu rfl rfl
theorem ex_gd : pmE [2, 2] [1, 0] = 0 := by
 unfold pmE
 rw [if_neg (by decide +kernel), if_pos]
 refine ⟨rfl, fun i hi => ?_⟩
 have hi : i < 2 := hi
 rcases (by omega : i = 0 \/ i = 1) with rfl | rfl
 ·exact ⟨by decide, by decide, fun j hj => by omega⟩
 ·refine ⟨by decide, by decide, fun j hj => ?_⟩
  obtain rfl : j = 0 := by omega
  decide
theorem ex_perm (p : Option Addr) (c : Nat) (q : Option Addr) (d : Nat) (w : World) (hc : 2 <= c) (hc2 : c <= 9223372036854775807) (hd : 4 <= d) (hd2 : d <= 9223372036854775807) (RA : Hid (SlI w p [2, 2])) (RB : Hid (SlV w q [(1, 1), (2, 1), (3, 1), (4, 1)])) (x : Option Addr) (e : Nat) (RX : Hid (SlI w x [1, 0])) : Calls Tryz.prog 37 #[.agg #[.int .i64 3, .int .i64 0, .int .i64 0, .int .i64 0, .int .i64 0, .slice p 2 c, .slice q 4 d], .slice x 2 e] w (TU 3 0 0 0 0 [2, 2] [(1, 1), (3, 1), (2, 1), (4, 1)] 2 4 0 w) :=
 (pm_c 3 0 0 0 0 p [2, 2] c q [(1, 1), (2, 1), (3, 1), (4, 1)] d x [1, 0] e w (by decide) (by decide) (by decide) (by decide) RA RB (by decide) RX ex_t ex_gd).mono fun e w' h => by
  rw [show pm [2, 2] [1, 0] = [2, 2] by decide +kernel, show pmV [2, 2] [1, 0] [(1, 1), (2, 1), (3, 1), (4, 1)] = [(1, 1), (3, 1), (2, 1), (4, 1)] by decide +kernel] at h
  exact h.tu rfl rfl
theorem ex_at2 (p : Option Addr) (c : Nat) (q : Option Addr) (d : Nat) (w : World) (hc : 2 <= c) (hc2 : c <= 9223372036854775807) (hd : 4 <= d) (hd2 : d <= 9223372036854775807) (RA : Hid (SlI w p [2, 2])) (RB : Hid (SlV w q [(1, 1), (2, 1), (3, 1), (4, 1)])) (x : Option Addr) (e : Nat) (RX : Hid (SlI w x [0, 2])) : Calls Tryz.prog 24 #[.agg #[.int .i64 3, .int .i64 0, .int .i64 0, .int .i64 0, .int .i64 0, .slice p 2 c, .slice q 4 d], .slice x 2 e] w fun e w' => e = .returned (.tuple #[.agg #[.int .i64 0, .int .i64 0], .int .i64 12]) /\ Below w.heap.size w w' := by
 have h := tat 3 0 0 0 0 p [2, 2] c q [(1, 1), (2, 1), (3, 1), (4, 1)] d w (by decide) (by decide) (by decide) (by decide) RA RB x [0, 2] e (by decide) RX
 rw [show atR 3 0 0 0 0 [2, 2] [(1, 1), (2, 1), (3, 1), (4, 1)] [0, 2] = (0, 0, 12) by decide +kernel] at h
 exact h
theorem ex_at1 (p : Option Addr) (c : Nat) (q : Option Addr) (d : Nat) (w : World) (hc : 2 <= c) (hc2 : c <= 9223372036854775807) (hd : 4 <= d) (hd2 : d <= 9223372036854775807) (RA : Hid (SlI w p [2, 2])) (RB : Hid (SlV w q [(1, 1), (2, 1), (3, 1), (4, 1)])) (x : Option Addr) (e : Nat) (RX : Hid (SlI w x [0])) : Calls Tryz.prog 24 #[.agg #[.int .i64 3, .int .i64 0, .int .i64 0, .int .i64 0, .int .i64 0, .slice p 2 c, .slice q 4 d], .slice x 1 e] w fun e w' => e = .returned (.tuple #[.agg #[.int .i64 0, .int .i64 0], .int .i64 11]) /\ Below w.heap.size w w' := by
 have h := tat 3 0 0 0 0 p [2, 2] c q [(1, 1), (2, 1), (3, 1), (4, 1)] d w (by decide) (by decide) (by decide) (by decide) RA RB x [0] e (by decide) RX
 rw [show atR 3 0 0 0 0 [2, 2] [(1, 1), (2, 1), (3, 1), (4, 1)] [0] = (0, 0, 11) by decide +kernel] at h
 exact h

theorem ex_f1_x : fmX 3 0 0 0 0 [2, 2] [(1, 1), (2, 1), (3, 1), (4, 1)] = [91, 91, 49, 44, 32, 50, 93, 44, 32, 91, 51, 44, 32, 52, 93, 93] := by
 unfold fmX
 rw [if_neg (by rw [show tE 3 0 0 0 0 [2, 2] [(1, 1), (2, 1), (3, 1), (4, 1)] = 0 by decide +kernel]; simp)]
 have v1 : vfm 3 0 0 0 0 1 1 = [49] := vfm1 (n := 1) (by decide)
 have v2 : vfm 3 0 0 0 0 2 1 = [50] := vfm1 (n := 2) (by decide)
 have v3 : vfm 3 0 0 0 0 3 1 = [51] := vfm1 (n := 3) (by decide)
 have v4 : vfm 3 0 0 0 0 4 1 = [52] := vfm1 (n := 4) (by decide)
 simp [wtx, wtj, sp, v1, v2, v3, v4]
theorem ex_f1 (p : Option Addr) (c : Nat) (q : Option Addr) (d : Nat) (w : World) (hc : 2 <= c) (hc2 : c <= 9223372036854775807) (hd : 4 <= d) (hd2 : d <= 9223372036854775807) (RA : Hid (SlI w p [2, 2])) (RB : Hid (SlV w q [(1, 1), (2, 1), (3, 1), (4, 1)])) (hL : Tx.LA w) : Calls Tryz.prog 42 #[.agg #[.int .i64 3, .int .i64 0, .int .i64 0, .int .i64 0, .int .i64 0, .slice p 2 c, .slice q 4 d]] w fun e w' => e = .returned (.string ⟨#[91, 91, 49, 44, 32, 50, 93, 44, 32, 91, 51, 44, 32, 52, 93, 93]⟩) /\ Below w.heap.size w w' := by
 have h := tfm 3 0 0 0 0 p [2, 2] c q [(1, 1), (2, 1), (3, 1), (4, 1)] d w (by decide) (by decide) (by decide) (by decide) RA RB hc hc2 hd hd2 hL
 rw [ex_f1_x] at h
 exact h

theorem ex_f2_x : fmX 3 0 0 0 0 [2] [(4, 1), (6, 1)] = [91, 52, 44, 32, 54, 93] := by
 unfold fmX
 rw [if_neg (by rw [show tE 3 0 0 0 0 [2] [(4, 1), (6, 1)] = 0 by decide +kernel]; simp)]
 have v4 : vfm 3 0 0 0 0 4 1 = [52] := vfm1 (n := 4) (by decide)
 have v6 : vfm 3 0 0 0 0 6 1 = [54] := vfm1 (n := 6) (by decide)
 simp [wtx, wtj, sp, v4, v6]
theorem ex_f2 (p : Option Addr) (c : Nat) (q : Option Addr) (d : Nat) (w : World) (hc : 1 <= c) (hc2 : c <= 9223372036854775807) (hd : 2 <= d) (hd2 : d <= 9223372036854775807) (RA : Hid (SlI w p [2])) (RB : Hid (SlV w q [(4, 1), (6, 1)])) (hL : Tx.LA w) : Calls Tryz.prog 42 #[.agg #[.int .i64 3, .int .i64 0, .int .i64 0, .int .i64 0, .int .i64 0, .slice p 1 c, .slice q 2 d]] w fun e w' => e = .returned (.string ⟨#[91, 52, 44, 32, 54, 93]⟩) /\ Below w.heap.size w w' := by
 have h := tfm 3 0 0 0 0 p [2] c q [(4, 1), (6, 1)] d w (by decide) (by decide) (by decide) (by decide) RA RB hc hc2 hd hd2 hL
 rw [ex_f2_x] at h
 exact h

theorem ex_f3_x : fmX 3 0 0 0 0 [2, 2] [(1, 1), (3, 1), (3, 1), (7, 1)] = [91, 91, 49, 44, 32, 51, 93, 44, 32, 91, 51, 44, 32, 55, 93, 93] := by
 unfold fmX
 rw [if_neg (by rw [show tE 3 0 0 0 0 [2, 2] [(1, 1), (3, 1), (3, 1), (7, 1)] = 0 by decide +kernel]; simp)]
 have v1 : vfm 3 0 0 0 0 1 1 = [49] := vfm1 (n := 1) (by decide)
 have v3 : vfm 3 0 0 0 0 3 1 = [51] := vfm1 (n := 3) (by decide)
 have v7 : vfm 3 0 0 0 0 7 1 = [55] := vfm1 (n := 7) (by decide)
 simp [wtx, wtj, sp, v1, v3, v7]
theorem ex_f3 (p : Option Addr) (c : Nat) (q : Option Addr) (d : Nat) (w : World) (hc : 2 <= c) (hc2 : c <= 9223372036854775807) (hd : 4 <= d) (hd2 : d <= 9223372036854775807) (RA : Hid (SlI w p [2, 2])) (RB : Hid (SlV w q [(1, 1), (3, 1), (3, 1), (7, 1)])) (hL : Tx.LA w) : Calls Tryz.prog 42 #[.agg #[.int .i64 3, .int .i64 0, .int .i64 0, .int .i64 0, .int .i64 0, .slice p 2 c, .slice q 4 d]] w fun e w' => e = .returned (.string ⟨#[91, 91, 49, 44, 32, 51, 93, 44, 32, 91, 51, 44, 32, 55, 93, 93]⟩) /\ Below w.heap.size w w' := by
 have h := tfm 3 0 0 0 0 p [2, 2] c q [(1, 1), (3, 1), (3, 1), (7, 1)] d w (by decide) (by decide) (by decide) (by decide) RA RB hc hc2 hd hd2 hL
 rw [ex_f3_x] at h
 exact h

theorem ex_f4_x : fmX 3 0 0 0 0 [2, 2] [(1, 1), (3, 1), (2, 1), (4, 1)] = [91, 91, 49, 44, 32, 51, 93, 44, 32, 91, 50, 44, 32, 52, 93, 93] := by
 unfold fmX
 rw [if_neg (by rw [show tE 3 0 0 0 0 [2, 2] [(1, 1), (3, 1), (2, 1), (4, 1)] = 0 by decide +kernel]; simp)]
 have v1 : vfm 3 0 0 0 0 1 1 = [49] := vfm1 (n := 1) (by decide)
 have v2 : vfm 3 0 0 0 0 2 1 = [50] := vfm1 (n := 2) (by decide)
 have v3 : vfm 3 0 0 0 0 3 1 = [51] := vfm1 (n := 3) (by decide)
 have v4 : vfm 3 0 0 0 0 4 1 = [52] := vfm1 (n := 4) (by decide)
 simp [wtx, wtj, sp, v1, v2, v3, v4]
theorem ex_f4 (p : Option Addr) (c : Nat) (q : Option Addr) (d : Nat) (w : World) (hc : 2 <= c) (hc2 : c <= 9223372036854775807) (hd : 4 <= d) (hd2 : d <= 9223372036854775807) (RA : Hid (SlI w p [2, 2])) (RB : Hid (SlV w q [(1, 1), (3, 1), (2, 1), (4, 1)])) (hL : Tx.LA w) : Calls Tryz.prog 42 #[.agg #[.int .i64 3, .int .i64 0, .int .i64 0, .int .i64 0, .int .i64 0, .slice p 2 c, .slice q 4 d]] w fun e w' => e = .returned (.string ⟨#[91, 91, 49, 44, 32, 51, 93, 44, 32, 91, 50, 44, 32, 52, 93, 93]⟩) /\ Below w.heap.size w w' := by
 have h := tfm 3 0 0 0 0 p [2, 2] c q [(1, 1), (3, 1), (2, 1), (4, 1)] d w (by decide) (by decide) (by decide) (by decide) RA RB hc hc2 hd hd2 hL
 rw [ex_f4_x] at h
 exact h
end Go.Proofs.YteaaikmejacpaaaGreatDoor.Te


namespace Go.Proofs.YteaaikmejacpaaaGreatDoor.Te
open Go.ChangeShapes Go.WideShapes Go.ChangeAt Go.RowKit
open Fx Va Sh
set_option maxRecDepth 8000
set_option linter.unusedVariables false
set_option linter.unusedSimpArgs false

set_option maxRecDepth 100000 in
set_option maxHeartbeats 2000000 in
theorem exam12 (w : World) (hLA0 : Tx.LA w) : Calls Tryz.prog 15 #[] w fun e w' => e = .returned (.bool true) /\ Below w.heap.size w w' := by
 have hLA := Lib.hid hLA0
 have HD0 : Hid (SlI ((w.alloc (Obj.cells #[Value.int .i64 2, Value.int .i64 2] 3)).alloc (Obj.cells #[Value.int .i64 1, Value.int .i64 1, Value.int .i64 2, Value.int .i64 1, Value.int .i64 3, Value.int .i64 1, Value.int .i64 4, Value.int .i64 1] 29)) (some ⟨w.heap.size, 0, none⟩) [2, 2]) := Lib.hid (by
  intro i hi
  rcases i with _ | _ | i
  ·exact ⟨w.heap.size, 0, rfl, by go_cell⟩
  ·exact ⟨w.heap.size, 0, rfl, by go_cell⟩
  ·exact absurd hi (by simp))
 have HV0 : Hid (SlV ((w.alloc (Obj.cells #[Value.int .i64 2, Value.int .i64 2] 3)).alloc (Obj.cells #[Value.int .i64 1, Value.int .i64 1, Value.int .i64 2, Value.int .i64 1, Value.int .i64 3, Value.int .i64 1, Value.int .i64 4, Value.int .i64 1] 29)) (some ⟨w.heap.size + 1, 0, none⟩) [(1, 1), (2, 1), (3, 1), (4, 1)]) := Lib.hid (by
  intro i hi
  rcases i with _ | _ | _ | _ | i
  ·exact ⟨w.heap.size + 1, 0, rfl, by go_cell, by go_cell⟩
  ·exact ⟨w.heap.size + 1, 0, rfl, by go_cell, by go_cell⟩
  ·exact ⟨w.heap.size + 1, 0, rfl, by go_cell, by go_cell⟩
  ·exact ⟨w.heap.size + 1, 0, rfl, by go_cell, by go_cell⟩
  ·exact absurd hi (by simp))
 have hL_0 := Lib.hid (Below.refl w.heap.size w)
 clear hLA0
 go_enter Tryz.func15, Tryz.ntmps15
 go_wp2_with (first | (go_at_call 16; have hWw1 : Below w.heap.size w ((w.alloc (Obj.cells #[Value.int .i64 2, Value.int .i64 2] 3)).alloc (Obj.cells #[Value.int .i64 1, Value.int .i64 1, Value.int .i64 2, Value.int .i64 1, Value.int .i64 3, Value.int .i64 1, Value.int .i64 4, Value.int .i64 1] 29)) := ((Below.refl _ _).alloc (by exact Nat.le_refl _) _).alloc (by simp) _; have hLw1_0 := hL_0.out.trans (hWw1.mono hL_0.out.size); (with_reducible refine (ex_new (some ⟨w.heap.size, 0, none⟩) 2 (some ⟨w.heap.size + 1, 0, none⟩) 4 _ (by decide) (by decide) (by decide) (by decide) HD0 HV0).mono ?_); rintro e w1 ⟨p1, k1, q1, d1, rfl, a1, b1, e1, f1, si1, sv1, hb⟩; have hXw1 := hWw1.trans (hb.mono hWw1.size); have hL_0 := Lib.hid (hL_0.out.trans (hXw1.mono hL_0.out.size)); clear hb hWw1 hXw1 hLw1_0; have hL_1 := Lib.hid (Below.refl w1.heap.size w1); have si1 := Lib.hid si1; have sv1 := Lib.hid sv1) | (go_at_call 33; have hWw2 : Below w1.heap.size w1 (w1.alloc (Obj.cells #[Value.int .i64 3, Value.int .i64 0, Value.int .i64 0, Value.int .i64 0, Value.int .i64 0, Value.slice p1 2 k1, Value.slice q1 4 d1] 27)) := (Below.refl _ _).alloc (by exact Nat.le_refl _) _; have hLw2_0 := hL_0.out.trans (hWw2.mono hL_0.out.size); have hLw2_1 := hL_1.out.trans (hWw2.mono hL_1.out.size); (with_reducible refine (ex_red p1 k1 q1 d1 _ a1 b1 e1 f1 (Lib.hid (SlI.keep hLw2_1 si1.out)) (Lib.hid (SlV.below sv1.out hLw2_1))).mono ?_); rintro e w2 ⟨p2, k2, q2, d2, rfl, a2, b2, e2, f2, si2, sv2, hb⟩; have hXw2 := hWw2.trans (hb.mono hWw2.size); have hL_0 := Lib.hid (hL_0.out.trans (hXw2.mono hL_0.out.size)); have hL_1 := Lib.hid (hL_1.out.trans (hXw2.mono hL_1.out.size)); have TB_1 := Lib.hid (B7.keep hb (by simp <;> omega) ((B7.new w1 27 (.int .i64 3) (.int .i64 0) (.int .i64 0) (.int .i64 0) (.int .i64 0) (.slice p1 2 k1) (.slice q1 4 d1)))); obtain ⟨⟨c1_0, c1_1, c1_2, c1_3, c1_4, c1_5, c1_6⟩, -⟩ := TB_1.out; have l1_w2 := TB_1.out.lt; clear hb hWw2 hXw2 hLw2_0 hLw2_1; have hL_2 := Lib.hid (Below.refl w2.heap.size w2); have si2 := Lib.hid si2; have sv2 := Lib.hid sv2) | (go_at_call 33; have hWw3 : Below w2.heap.size w2 (w2.alloc (Obj.cells #[Value.int .i64 3, Value.int .i64 0, Value.int .i64 0, Value.int .i64 0, Value.int .i64 0, Value.slice p2 1 k2, Value.slice q2 2 d2] 27)) := (Below.refl _ _).alloc (by exact Nat.le_refl _) _; have hLw3_0 := hL_0.out.trans (hWw3.mono hL_0.out.size); have hLw3_1 := hL_1.out.trans (hWw3.mono hL_1.out.size); have hLw3_2 := hL_2.out.trans (hWw3.mono hL_2.out.size); (with_reducible refine (ex_scan p1 k1 q1 d1 _ a1 b1 e1 f1 (Lib.hid (SlI.keep hLw3_1 si1.out)) (Lib.hid (SlV.below sv1.out hLw3_1))).mono ?_); rintro e w3 ⟨p3, k3, q3, d3, rfl, a3, b3, e3, f3, si3, sv3, hb⟩; have hXw3 := hWw3.trans (hb.mono hWw3.size); have hL_0 := Lib.hid (hL_0.out.trans (hXw3.mono hL_0.out.size)); have hL_1 := Lib.hid (hL_1.out.trans (hXw3.mono hL_1.out.size)); have hL_2 := Lib.hid (hL_2.out.trans (hXw3.mono hL_2.out.size)); have TB_1 := Lib.hid (B7.keep hXw3 TB_1.out.lt TB_1.out); have TB_2 := Lib.hid (B7.keep hb (by simp <;> omega) ((B7.new w2 27 (.int .i64 3) (.int .i64 0) (.int .i64 0) (.int .i64 0) (.int .i64 0) (.slice p2 1 k2) (.slice q2 2 d2)))); obtain ⟨⟨c1_0, c1_1, c1_2, c1_3, c1_4, c1_5, c1_6⟩, -⟩ := TB_1.out; have l1_w3 := TB_1.out.lt; clear hb hWw3 hXw3 hLw3_0 hLw3_1 hLw3_2; have hL_3 := Lib.hid (Below.refl w3.heap.size w3); have si3 := Lib.hid si3; have sv3 := Lib.hid sv3) | (go_at_call 37; have hWw4 : Below w3.heap.size w3 ((w3.alloc (Obj.cells #[Value.int .i64 3, Value.int .i64 0, Value.int .i64 0, Value.int .i64 0, Value.int .i64 0, Value.slice p3 2 k3, Value.slice q3 4 d3] 27)).alloc (Obj.cells #[Value.int .i64 1, Value.int .i64 0] 3)) := ((Below.refl _ _).alloc (by exact Nat.le_refl _) _).alloc (by simp) _; have hLw4_0 := hL_0.out.trans (hWw4.mono hL_0.out.size); have hLw4_1 := hL_1.out.trans (hWw4.mono hL_1.out.size); have hLw4_2 := hL_2.out.trans (hWw4.mono hL_2.out.size); have hLw4_3 := hL_3.out.trans (hWw4.mono hL_3.out.size); have HS9 := Lib.hid (show SlI ((w3.alloc (Obj.cells #[Value.int .i64 3, Value.int .i64 0, Value.int .i64 0, Value.int .i64 0, Value.int .i64 0, Value.slice p3 2 k3, Value.slice q3 4 d3] 27)).alloc (Obj.cells #[Value.int .i64 1, Value.int .i64 0] 3)) (some ⟨w3.heap.size + 1, 0, none⟩) [1, 0] from by intro i hi; rcases i with _ | _ | i; (exact ⟨w3.heap.size + 1, 0, rfl, by go_cell⟩); (first | exact ⟨w3.heap.size + 1, 0, rfl, by go_cell⟩ | exact absurd hi (by simp)); (exact absurd hi (by simp))); (with_reducible refine (ex_perm p1 k1 q1 d1 _ a1 b1 e1 f1 (Lib.hid (SlI.keep hLw4_1 si1.out)) (Lib.hid (SlV.below sv1.out hLw4_1)) _ 2 HS9).mono ?_); rintro e w4 ⟨p4, k4, q4, d4, rfl, a4, b4, e4, f4, si4, sv4, hb⟩; have hXw4 := hWw4.trans (hb.mono hWw4.size); have hL_0 := Lib.hid (hL_0.out.trans (hXw4.mono hL_0.out.size)); have hL_1 := Lib.hid (hL_1.out.trans (hXw4.mono hL_1.out.size)); have hL_2 := Lib.hid (hL_2.out.trans (hXw4.mono hL_2.out.size)); have hL_3 := Lib.hid (hL_3.out.trans (hXw4.mono hL_3.out.size)); have TB_1 := Lib.hid (B7.keep hXw4 TB_1.out.lt TB_1.out); have TB_2 := Lib.hid (B7.keep hXw4 TB_2.out.lt TB_2.out); have TB_3 := Lib.hid (B7.keep hb (by simp <;> omega) ((B7.new w3 27 (.int .i64 3) (.int .i64 0) (.int .i64 0) (.int .i64 0) (.int .i64 0) (.slice p3 2 k3) (.slice q3 4 d3)).alloc _)); obtain ⟨⟨c1_0, c1_1, c1_2, c1_3, c1_4, c1_5, c1_6⟩, -⟩ := TB_1.out; have l1_w4 := TB_1.out.lt; clear hb hWw4 hXw4 hLw4_0 hLw4_1 hLw4_2 hLw4_3; clear HS9; have hL_4 := Lib.hid (Below.refl w4.heap.size w4); have si4 := Lib.hid si4; have sv4 := Lib.hid sv4) | (go_at_call 24; have hWw5 : Below w4.heap.size w4 ((w4.alloc (Obj.cells #[Value.int .i64 3, Value.int .i64 0, Value.int .i64 0, Value.int .i64 0, Value.int .i64 0, Value.slice p4 2 k4, Value.slice q4 4 d4] 27)).alloc (Obj.cells #[Value.int .i64 0, Value.int .i64 2] 3)) := ((Below.refl _ _).alloc (by exact Nat.le_refl _) _).alloc (by simp) _; have hLw5_0 := hL_0.out.trans (hWw5.mono hL_0.out.size); have hLw5_1 := hL_1.out.trans (hWw5.mono hL_1.out.size); have hLw5_2 := hL_2.out.trans (hWw5.mono hL_2.out.size); have hLw5_3 := hL_3.out.trans (hWw5.mono hL_3.out.size); have hLw5_4 := hL_4.out.trans (hWw5.mono hL_4.out.size); have HS9 := Lib.hid (show SlI ((w4.alloc (Obj.cells #[Value.int .i64 3, Value.int .i64 0, Value.int .i64 0, Value.int .i64 0, Value.int .i64 0, Value.slice p4 2 k4, Value.slice q4 4 d4] 27)).alloc (Obj.cells #[Value.int .i64 0, Value.int .i64 2] 3)) (some ⟨w4.heap.size + 1, 0, none⟩) [0, 2] from by intro i hi; rcases i with _ | _ | i; (exact ⟨w4.heap.size + 1, 0, rfl, by go_cell⟩); (first | exact ⟨w4.heap.size + 1, 0, rfl, by go_cell⟩ | exact absurd hi (by simp)); (exact absurd hi (by simp))); (with_reducible refine (ex_at2 p1 k1 q1 d1 _ a1 b1 e1 f1 (Lib.hid (SlI.keep hLw5_1 si1.out)) (Lib.hid (SlV.below sv1.out hLw5_1)) _ 2 HS9).mono ?_); rintro e w5 ⟨rfl, hb⟩; have hXw5 := hWw5.trans (hb.mono hWw5.size); have hL_0 := Lib.hid (hL_0.out.trans (hXw5.mono hL_0.out.size)); have hL_1 := Lib.hid (hL_1.out.trans (hXw5.mono hL_1.out.size)); have hL_2 := Lib.hid (hL_2.out.trans (hXw5.mono hL_2.out.size)); have hL_3 := Lib.hid (hL_3.out.trans (hXw5.mono hL_3.out.size)); have hL_4 := Lib.hid (hL_4.out.trans (hXw5.mono hL_4.out.size)); have TB_1 := Lib.hid (B7.keep hXw5 TB_1.out.lt TB_1.out); have TB_2 := Lib.hid (B7.keep hXw5 TB_2.out.lt TB_2.out); have TB_3 := Lib.hid (B7.keep hXw5 TB_3.out.lt TB_3.out); have TB_4 := Lib.hid (B7.keep hb (by simp <;> omega) ((B7.new w4 27 (.int .i64 3) (.int .i64 0) (.int .i64 0) (.int .i64 0) (.int .i64 0) (.slice p4 2 k4) (.slice q4 4 d4)).alloc _)); obtain ⟨⟨c1_0, c1_1, c1_2, c1_3, c1_4, c1_5, c1_6⟩, -⟩ := TB_1.out; have l1_w5 := TB_1.out.lt; clear hb hWw5 hXw5 hLw5_0 hLw5_1 hLw5_2 hLw5_3 hLw5_4; clear HS9) | (go_at_call 24; have hWw6 : Below w5.heap.size w5 ((w5.alloc (Obj.cells #[Value.int .i64 0, Value.int .i64 0] 29)).alloc (Obj.cells #[Value.int .i64 0] 3)) := ((Below.refl _ _).alloc (by exact Nat.le_refl _) _).alloc (by simp) _; have hLw6_0 := hL_0.out.trans (hWw6.mono hL_0.out.size); have hLw6_1 := hL_1.out.trans (hWw6.mono hL_1.out.size); have hLw6_2 := hL_2.out.trans (hWw6.mono hL_2.out.size); have hLw6_3 := hL_3.out.trans (hWw6.mono hL_3.out.size); have hLw6_4 := hL_4.out.trans (hWw6.mono hL_4.out.size); have HS9 := Lib.hid (show SlI ((w5.alloc (Obj.cells #[Value.int .i64 0, Value.int .i64 0] 29)).alloc (Obj.cells #[Value.int .i64 0] 3)) (some ⟨w5.heap.size + 1, 0, none⟩) [0] from by intro i hi; rcases i with _ | i; (exact ⟨w5.heap.size + 1, 0, rfl, by go_cell⟩); (exact absurd hi (by simp))); (with_reducible refine (ex_at1 p1 k1 q1 d1 _ a1 b1 e1 f1 (Lib.hid (SlI.keep hLw6_1 si1.out)) (Lib.hid (SlV.below sv1.out hLw6_1)) _ 1 HS9).mono ?_); rintro e w6 ⟨rfl, hb⟩; have hXw6 := hWw6.trans (hb.mono hWw6.size); have hL_0 := Lib.hid (hL_0.out.trans (hXw6.mono hL_0.out.size)); have hL_1 := Lib.hid (hL_1.out.trans (hXw6.mono hL_1.out.size)); have hL_2 := Lib.hid (hL_2.out.trans (hXw6.mono hL_2.out.size)); have hL_3 := Lib.hid (hL_3.out.trans (hXw6.mono hL_3.out.size)); have hL_4 := Lib.hid (hL_4.out.trans (hXw6.mono hL_4.out.size)); have TB_1 := Lib.hid (B7.keep hXw6 TB_1.out.lt TB_1.out); have TB_2 := Lib.hid (B7.keep hXw6 TB_2.out.lt TB_2.out); have TB_3 := Lib.hid (B7.keep hXw6 TB_3.out.lt TB_3.out); have TB_4 := Lib.hid (B7.keep hXw6 TB_4.out.lt TB_4.out); obtain ⟨⟨c1_0, c1_1, c1_2, c1_3, c1_4, c1_5, c1_6⟩, -⟩ := TB_1.out; have l1_w6 := TB_1.out.lt; clear hb hWw6 hXw6 hLw6_0 hLw6_1 hLw6_2 hLw6_3 hLw6_4; clear HS9) | (go_at_call 42; have hWw7 : Below w6.heap.size w6 (w6.alloc (Obj.cells #[Value.int .i64 0, Value.int .i64 0] 29)) := (Below.refl _ _).alloc (by exact Nat.le_refl _) _; have hLw7_0 := hL_0.out.trans (hWw7.mono hL_0.out.size); have hLw7_1 := hL_1.out.trans (hWw7.mono hL_1.out.size); have hLw7_2 := hL_2.out.trans (hWw7.mono hL_2.out.size); have hLw7_3 := hL_3.out.trans (hWw7.mono hL_3.out.size); have hLw7_4 := hL_4.out.trans (hWw7.mono hL_4.out.size); (with_reducible refine (ex_f1 p1 k1 q1 d1 _ a1 b1 e1 f1 (Lib.hid (SlI.keep hLw7_1 si1.out)) (Lib.hid (SlV.below sv1.out hLw7_1)) (hLA.out.below hLw7_0)).mono ?_); rintro e w7 ⟨rfl, hb⟩; have hXw7 := hWw7.trans (hb.mono hWw7.size); have hL_0 := Lib.hid (hL_0.out.trans (hXw7.mono hL_0.out.size)); have hL_1 := Lib.hid (hL_1.out.trans (hXw7.mono hL_1.out.size)); have hL_2 := Lib.hid (hL_2.out.trans (hXw7.mono hL_2.out.size)); have hL_3 := Lib.hid (hL_3.out.trans (hXw7.mono hL_3.out.size)); have hL_4 := Lib.hid (hL_4.out.trans (hXw7.mono hL_4.out.size)); have TB_1 := Lib.hid (B7.keep hXw7 TB_1.out.lt TB_1.out); have TB_2 := Lib.hid (B7.keep hXw7 TB_2.out.lt TB_2.out); have TB_3 := Lib.hid (B7.keep hXw7 TB_3.out.lt TB_3.out); have TB_4 := Lib.hid (B7.keep hXw7 TB_4.out.lt TB_4.out); obtain ⟨⟨c2_0, c2_1, c2_2, c2_3, c2_4, c2_5, c2_6⟩, -⟩ := TB_2.out; have l2_w7 := TB_2.out.lt; clear hb hWw7 hXw7 hLw7_0 hLw7_1 hLw7_2 hLw7_3 hLw7_4) | (go_at_call 42; have hWw8 : Below w7.heap.size w7 w7 := Below.refl _ _; have hLw8_0 := hL_0.out.trans (hWw8.mono hL_0.out.size); have hLw8_1 := hL_1.out.trans (hWw8.mono hL_1.out.size); have hLw8_2 := hL_2.out.trans (hWw8.mono hL_2.out.size); have hLw8_3 := hL_3.out.trans (hWw8.mono hL_3.out.size); have hLw8_4 := hL_4.out.trans (hWw8.mono hL_4.out.size); (with_reducible refine (ex_f2 p2 k2 q2 d2 _ a2 b2 e2 f2 (Lib.hid (SlI.keep hLw8_2 si2.out)) (Lib.hid (SlV.below sv2.out hLw8_2)) (hLA.out.below hLw8_0)).mono ?_); rintro e w8 ⟨rfl, hb⟩; have hXw8 := hWw8.trans (hb.mono hWw8.size); have hL_0 := Lib.hid (hL_0.out.trans (hXw8.mono hL_0.out.size)); have hL_1 := Lib.hid (hL_1.out.trans (hXw8.mono hL_1.out.size)); have hL_2 := Lib.hid (hL_2.out.trans (hXw8.mono hL_2.out.size)); have hL_3 := Lib.hid (hL_3.out.trans (hXw8.mono hL_3.out.size)); have hL_4 := Lib.hid (hL_4.out.trans (hXw8.mono hL_4.out.size)); have TB_1 := Lib.hid (B7.keep hXw8 TB_1.out.lt TB_1.out); have TB_2 := Lib.hid (B7.keep hXw8 TB_2.out.lt TB_2.out); have TB_3 := Lib.hid (B7.keep hXw8 TB_3.out.lt TB_3.out); have TB_4 := Lib.hid (B7.keep hXw8 TB_4.out.lt TB_4.out); obtain ⟨⟨c3_0, c3_1, c3_2, c3_3, c3_4, c3_5, c3_6⟩, -⟩ := TB_3.out; have l3_w8 := TB_3.out.lt; clear hb hWw8 hXw8 hLw8_0 hLw8_1 hLw8_2 hLw8_3 hLw8_4) | (go_at_call 42; have hWw9 : Below w8.heap.size w8 w8 := Below.refl _ _; have hLw9_0 := hL_0.out.trans (hWw9.mono hL_0.out.size); have hLw9_1 := hL_1.out.trans (hWw9.mono hL_1.out.size); have hLw9_2 := hL_2.out.trans (hWw9.mono hL_2.out.size); have hLw9_3 := hL_3.out.trans (hWw9.mono hL_3.out.size); have hLw9_4 := hL_4.out.trans (hWw9.mono hL_4.out.size); (with_reducible refine (ex_f3 p3 k3 q3 d3 _ a3 b3 e3 f3 (Lib.hid (SlI.keep hLw9_3 si3.out)) (Lib.hid (SlV.below sv3.out hLw9_3)) (hLA.out.below hLw9_0)).mono ?_); rintro e w9 ⟨rfl, hb⟩; have hXw9 := hWw9.trans (hb.mono hWw9.size); have hL_0 := Lib.hid (hL_0.out.trans (hXw9.mono hL_0.out.size)); have hL_1 := Lib.hid (hL_1.out.trans (hXw9.mono hL_1.out.size)); have hL_2 := Lib.hid (hL_2.out.trans (hXw9.mono hL_2.out.size)); have hL_3 := Lib.hid (hL_3.out.trans (hXw9.mono hL_3.out.size)); have hL_4 := Lib.hid (hL_4.out.trans (hXw9.mono hL_4.out.size)); have TB_1 := Lib.hid (B7.keep hXw9 TB_1.out.lt TB_1.out); have TB_2 := Lib.hid (B7.keep hXw9 TB_2.out.lt TB_2.out); have TB_3 := Lib.hid (B7.keep hXw9 TB_3.out.lt TB_3.out); have TB_4 := Lib.hid (B7.keep hXw9 TB_4.out.lt TB_4.out); obtain ⟨⟨c4_0, c4_1, c4_2, c4_3, c4_4, c4_5, c4_6⟩, -⟩ := TB_4.out; have l4_w9 := TB_4.out.lt; clear hb hWw9 hXw9 hLw9_0 hLw9_1 hLw9_2 hLw9_3 hLw9_4) | (go_at_call 42; have hWw10 : Below w9.heap.size w9 w9 := Below.refl _ _; have hLw10_0 := hL_0.out.trans (hWw10.mono hL_0.out.size); have hLw10_1 := hL_1.out.trans (hWw10.mono hL_1.out.size); have hLw10_2 := hL_2.out.trans (hWw10.mono hL_2.out.size); have hLw10_3 := hL_3.out.trans (hWw10.mono hL_3.out.size); have hLw10_4 := hL_4.out.trans (hWw10.mono hL_4.out.size); (with_reducible refine (ex_f4 p4 k4 q4 d4 _ a4 b4 e4 f4 (Lib.hid (SlI.keep hLw10_4 si4.out)) (Lib.hid (SlV.below sv4.out hLw10_4)) (hLA.out.below hLw10_0)).mono ?_); rintro e w10 ⟨rfl, hb⟩; have hXw10 := hWw10.trans (hb.mono hWw10.size); have hL_0 := Lib.hid (hL_0.out.trans (hXw10.mono hL_0.out.size)); have hL_1 := Lib.hid (hL_1.out.trans (hXw10.mono hL_1.out.size)); have hL_2 := Lib.hid (hL_2.out.trans (hXw10.mono hL_2.out.size)); have hL_3 := Lib.hid (hL_3.out.trans (hXw10.mono hL_3.out.size)); have hL_4 := Lib.hid (hL_4.out.trans (hXw10.mono hL_4.out.size)); have TB_1 := Lib.hid (B7.keep hXw10 TB_1.out.lt TB_1.out); have TB_2 := Lib.hid (B7.keep hXw10 TB_2.out.lt TB_2.out); have TB_3 := Lib.hid (B7.keep hXw10 TB_3.out.lt TB_3.out); have TB_4 := Lib.hid (B7.keep hXw10 TB_4.out.lt TB_4.out); clear hb hWw10 hXw10 hLw10_0 hLw10_1 hLw10_2 hLw10_3 hLw10_4))
 go_ret
 exact ⟨rfl, hL_0.out⟩
end Go.Proofs.YteaaikmejacpaaaGreatDoor.Te


namespace Go.Proofs.YteaaikmejacpaaaGreatDoor.Te
open Go.ChangeShapes Go.WideShapes Go.ChangeAt Go.RowKit
open Fx Va Sh
set_option maxRecDepth 8000
set_option linter.unusedVariables false
set_option linter.unusedSimpArgs false

set_option maxHeartbeats 1000000 in
theorem tsmall (K B F R O : Int) (p : Option Addr) (n c : Nat) (q : Option Addr) (m d : Nat) (k : Int) (w : World) : Calls Tryz.prog 14 #[.agg #[.int .i64 K, .int .i64 B, .int .i64 F, .int .i64 R, .int .i64 O, .slice p n c, .slice q m d], .int .i64 k] w fun e w' => e = .returned (.bool (decide ((m : Int) <= k) && decide (n <= 20))) /\ Below w.heap.size w w' := by
 have K1 := Lib.hid ((Below.refl w.heap.size w).alloc (Nat.le_refl _) (Obj.cells #[Value.int .i64 K, Value.int .i64 B, Value.int .i64 F, Value.int .i64 R, Value.int .i64 O, Value.slice p n c, Value.slice q m d] 27))
 by_cases h1 : (m : Int) <= k
 ·have g1 : decide ((m : Int) <= k) = true := by simpa using h1
  by_cases h2 : n <= 20
  ·have g2 : decide (n <= 20) = true := by simpa using h2
   have g3 : decide ((n : Int) <= 20) = true := by simp; omega
   rw [g1, g2]
   clear h1 h2
   go_enter Tryz.func14, Tryz.ntmps14
   go_wp2_with fail
   go_ret
   exact ⟨rfl, K1.out⟩
  ·have g2 : decide (n <= 20) = false := by simpa using h2
   have g3 : decide ((n : Int) <= 20) = false := by simp; omega
   rw [g1, g2]
   clear h1 h2
   go_enter Tryz.func14, Tryz.ntmps14
   go_wp2_with fail
   go_ret
   exact ⟨rfl, K1.out⟩
 ·have g1 : decide ((m : Int) <= k) = false := by simpa using h1
  rw [g1]
  clear h1
  go_enter Tryz.func14, Tryz.ntmps14
  go_wp2_with fail
  go_ret
  exact ⟨rfl, K1.out⟩
/-- The point is determined by the number. -/
theorem pt_cell {zs : List Int} {a : Int} {j : Nat} (hv : vE zs = 0) (ha : 0 <= a) (hj : j < zs.length) : a / sp (zs.drop (j + 1)) % zs.getD j 0 = (pt zs a).getD j 0 /\ a / sp (zs.drop (j + 1)) / zs.getD j 0 = a / sp (zs.drop j) := by
 obtain ⟨_, hl, _, _, hd⟩ := valid_of hv
 refine ⟨(pt_get hj).symm, ?_⟩
 have e : sp (zs.drop j) = sp (zs.drop (j + 1)) * zs.getD j 0 := by rw [drop_cons hj]; rfl
 rw [pt_step (hd (j + 1)).1, e]

end Go.Proofs.YteaaikmejacpaaaGreatDoor.Te


namespace Go.Proofs.YteaaikmejacpaaaGreatDoor.Te
open Go.ChangeShapes Go.WideShapes Go.ChangeAt Go.RowKit
open Fx Va Sh
set_option maxRecDepth 8000
set_option linter.unusedVariables false
set_option linter.unusedSimpArgs false

end Go.Proofs.YteaaikmejacpaaaGreatDoor.Te


namespace Go.Proofs.YteaaikmejacpaaaGreatDoor.Te
open Go.ChangeShapes Go.WideShapes Go.ChangeAt Go.RowKit
open Fx Va Sh
set_option maxRecDepth 8000
set_option linter.unusedVariables false
set_option linter.unusedSimpArgs false

end Go.Proofs.YteaaikmejacpaaaGreatDoor.Te


namespace Go.Proofs.YteaaikmejacpaaaGreatDoor.Te
open Go.ChangeShapes Go.WideShapes Go.ChangeAt Go.RowKit
open Fx Va Sh
set_option maxRecDepth 8000
set_option linter.unusedVariables false
set_option linter.unusedSimpArgs false

end Go.Proofs.YteaaikmejacpaaaGreatDoor.Te


namespace Go.Proofs.YteaaikmejacpaaaGreatDoor.Te
open Go.ChangeShapes Go.WideShapes Go.ChangeAt Go.RowKit
open Fx Va Sh
set_option maxRecDepth 8000
set_option linter.unusedVariables false
set_option linter.unusedSimpArgs false

end Go.Proofs.YteaaikmejacpaaaGreatDoor.Te


namespace Go.Proofs.YteaaikmejacpaaaGreatDoor.Te
open Go.ChangeShapes Go.WideShapes Go.ChangeAt Go.RowKit
open Fx Va Sh
set_option maxRecDepth 8000
set_option linter.unusedVariables false
set_option linter.unusedSimpArgs false

theorem drop_consI {l : List Int} {j : Nat} (h : j < l.length) : l.drop j = l.getD j 0 :: l.drop (j + 1) := by
 rw [List.drop_eq_getElem_cons h, List.getD_eq_getElem?_getD, List.getElem?_eq_getElem h]; rfl
theorem low_drop {zs : List Int} (h : zs.any low = false) (j : Nat) : (zs.drop j).any low = false := by
 rw [List.any_eq_false] at h ⊢
 exact fun x hx => h x (List.mem_of_mem_drop hx)
theorem of_next {zs xs : List Int} {A N : Int} {j : Nat} (hlow : zs.any low = false) (hl : xs.length = zs.length) (hj : j < zs.length) (hA : 0 <= A) (h : of A (zs.drop j) (xs.drop j) = some N) : of (A * zs.getD j 0 + xs.getD j 0) (zs.drop (j + 1)) (xs.drop (j + 1)) = some N /\ 0 <= xs.getD j 0 /\ 0 <= A * zs.getD j 0 /\ A * zs.getD j 0 + xs.getD j 0 <= N := by
 rw [drop_consI hj, drop_consI (l := xs) (by omega)] at h
 by_cases c : 0 <= xs.getD j 0 /\ xs.getD j 0 < zs.getD j 0
 ·rw [of_go c] at h
  have hz : 0 <= A * zs.getD j 0 := Int.mul_nonneg hA (by omega)
  obtain ⟨a1, a2, a3⟩ := of_bd _ _ _ N (low_drop hlow (j + 1)) (by simp; omega) h (by omega)
  refine ⟨h, c.1, hz, ?_⟩
  have := Int.mul_le_mul_of_nonneg_left a3 (show 0 <= A * zs.getD j 0 + xs.getD j 0 by omega)
  rw [Int.mul_one] at this
  omega
 ·rw [of_none c] at h; cases h

set_option maxRecDepth 100000 in
set_option maxHeartbeats 2000000 in
theorem troff (p x : Option Addr) (zs xs : List Int) (c e : Nat) (N : Int) (w : World) (hv : vE zs = 0) (hl : xs.length = zs.length) (ho : of 0 zs xs = some N) (RA : Hid (SlI w p zs)) (RX : Hid (SlI w x xs)) :
  Calls Tryz.prog 69 #[.slice p zs.length c, .slice x xs.length e] w fun e w' => e = .returned (.int .i64 N) /\ ∃ k, w' = w.drewN k := by
 obtain ⟨h6, hlow, -, hsp, -⟩ := valid_of hv
 have HST := Lib.hid fun (A : Int) (j : Nat) (hj : j < zs.length) (hA : 0 <= A) h => of_next (N := N) hlow hl hj hA h
 have hN : N <= 4096 := by
  obtain ⟨a1, a2, a3⟩ := of_bd zs xs 0 N hlow hl ho (Int.le_refl _)
  omega
 have HO0 := Lib.hid ho
 obtain ⟨n, hn⟩ : ∃ n, zs.length = n := ⟨_, rfl⟩
 have HN := Lib.hid hn
 have HM := Lib.hid (hl.trans hn)
 rw [hl, hn]
 rw [hn] at h6 HST
 clear hl hlow hsp hn ho hv
 go_enter Tryz.func69, Tryz.ntmps69
 go_wp2
 go_loopw [5, 6] (fun av iv wr => ∃ (k : Nat) (A : Int), av = .int .i64 A /\ iv = .int .i64 k /\ k <= n /\ 0 <= A /\ A <= 4096 /\ Hid (of A (zs.drop k) (xs.drop k) = some N) /\ ∃ m, wr = w.drewN m) (fun _ iv _ => n - (intOf iv).toNat)
 case atStart => exact ⟨0, 0, rfl, rfl, by omega, by omega, by omega, HO0, 0, rfl⟩
 case round =>
  obtain ⟨k, A, rfl, rfl, hk, hA0, hA4, HA, m, rfl⟩ := hrel
  by_cases hlt : k < n
  ·obtain ⟨b, o, rfl, hc⟩ := RA.out k (by rw [HN.out]; exact hlt)
   obtain ⟨b', o', rfl, hc'⟩ := RX.out k (by rw [HM.out]; exact hlt)
   obtain ⟨s1, s2, s3, s4⟩ := HST.out A k hlt hA0 HA.out
   obtain ⟨z, hz⟩ : ∃ z, zs.getD k 0 = z := ⟨_, rfl⟩
   obtain ⟨y, hy⟩ : ∃ y, xs.getD k 0 = y := ⟨_, rfl⟩
   rw [hz] at hc s1 s3 s4
   rw [hy] at hc' s1 s2 s4
   have S1 := Lib.hid s1
   obtain ⟨t, ht⟩ : ∃ t, A * z = t := ⟨_, rfl⟩
   rw [ht] at s3 s4
   have HT := Lib.hid ht
   have mi : (0 : Int) <= k := by omega
   have mi2 : (k : Int) < n := by omega
   have w1 : wrap64 t = t := w64 (by omega) (by omega)
   have w2 : wrap64 (t + y) = t + y := w64 (by omega) (by omega)
   clear hz hy s1
   go_wp2
   go_quiet (fail)
   go_wp2
   go_roundw
   case rel => exact ⟨k + 1, A * z + y, by rw [HT.out], by go_num, by omega, by rw [HT.out]; omega, by rw [HT.out]; omega, S1, m + nq, by first | rfl | rw [World.drewN_drewN]⟩
   case measure => simp [intOf]; omega
  ·have hA : A = N := by
    have h := HA.out
    rw [List.drop_of_length_le (by rw [HN.out]; omega), List.drop_of_length_le (by rw [HM.out]; omega)] at h
    exact Option.some.inj h
   subst hA
   go_wp2
   go_ret
   exact ⟨rfl, m, rfl⟩
end Go.Proofs.YteaaikmejacpaaaGreatDoor.Te


namespace Go.Proofs.YteaaikmejacpaaaGreatDoor.Te
open Go.ChangeShapes Go.WideShapes Go.ChangeAt Go.RowKit
open Fx Va Sh
set_option maxRecDepth 8000
set_option linter.unusedVariables false
set_option linter.unusedSimpArgs false

/-- A shape without one axis. -/
def rst (zs : List Int) (a : Nat) : List Int := zs.take a ++ zs.drop (a + 1)
/-- An index with one place put in. -/
def ins (p : List Int) (a : Nat) (k : Int) : List Int := p.take a ++ k :: p.drop a
theorem of_app : ∀ (z1 x1 z2 x2 : List Int) (S n : Int), x1.length = z1.length -> of S z1 x1 = some n -> of S (z1 ++ z2) (x1 ++ x2) = of n z2 x2
 | [], [], z2, x2, S, n, _, h => by
  have e : of S [] [] = some S := rfl
  rw [e] at h
  rw [Option.some.inj h]
  rfl
 | [], _ :: _, _, _, _, _, h, _ => absurd h (by simp)
 | _ :: _, [], _, _, _, _, h, _ => absurd h (by simp)
 | z :: z1, x :: x1, z2, x2, S, n, hl, h => by
  by_cases c : 0 <= x /\ x < z
  ·rw [of_go c] at h
   show of S (z :: (z1 ++ z2)) (x :: (x1 ++ x2)) = _
   rw [of_go c]
   exact of_app z1 x1 z2 x2 _ n (by simpa using hl) h
  ·rw [of_none c] at h; cases h
theorem of_appI : ∀ (z1 x1 z2 x2 : List Int) (S N : Int), x1.length = z1.length -> of S (z1 ++ z2) (x1 ++ x2) = some N -> ∃ n, of S z1 x1 = some n /\ of n z2 x2 = some N
 | [], [], z2, x2, S, N, _, h => ⟨S, rfl, h⟩
 | [], _ :: _, _, _, _, _, h, _ => absurd h (by simp)
 | _ :: _, [], _, _, _, _, h, _ => absurd h (by simp)
 | z :: z1, x :: x1, z2, x2, S, N, hl, h => by
  replace h : of S (z :: (z1 ++ z2)) (x :: (x1 ++ x2)) = some N := h
  by_cases c : 0 <= x /\ x < z
  ·rw [of_go c] at h
   rw [of_go c]
   exact of_appI z1 x1 z2 x2 _ N (by simpa using hl) h
  ·rw [of_none c] at h; cases h
theorem sp_cons (z : Int) (zs : List Int) : sp (z :: zs) = z * sp zs := by simp [sp, Int.mul_comm]
theorem of_shift : ∀ (zs xs : List Int) (S T n : Int), xs.length = zs.length -> of S zs xs = some n -> of T zs xs = some (n + (T - S) * sp zs)
 | [], [], S, T, n, _, h => by
  have e : of S [] [] = some S := rfl
  rw [e] at h
  have e2 : of T [] [] = some T := rfl
  have e3 : sp ([] : List Int) = 1 := rfl
  rw [e2, e3, <- Option.some.inj h]
  exact congrArg some (by omega)
 | [], _ :: _, _, _, _, h, _ => absurd h (by simp)
 | _ :: _, [], _, _, _, h, _ => absurd h (by simp)
 | z :: zs, x :: xs, S, T, n, hl, h => by
  by_cases c : 0 <= x /\ x < z
  ·rw [of_go c] at h
   rw [of_go c, of_shift zs xs _ (T * z + x) n (by simpa using hl) h, sp_cons]
   refine congrArg some ?_
   have : (T * z + x - (S * z + x)) = (T - S) * z := by rw [Int.sub_mul]; omega
   rw [this, Int.mul_assoc]
  ·rw [of_none c] at h; cases h
theorem rst_length {zs : List Int} {a : Nat} (ha : a < zs.length) : (rst zs a).length = zs.length - 1 := by
 unfold rst; rw [List.length_append, List.length_take, List.length_drop]; omega
theorem rst_sp (zs : List Int) (a : Nat) : sp (rst zs a) = sp (zs.take a) * sp (zs.drop (a + 1)) := sp_append _ _
theorem rst_valid {zs : List Int} {a : Nat} (hv : vE zs = 0) (ha : a < zs.length) : vE (rst zs a) = 0 := by
 obtain ⟨h6, hlow, -, hsp, -⟩ := valid_of hv
 obtain ⟨e, p1, p2, p3⟩ := sp_parts hv ha
 have hl : (rst zs a).any low = false := by
  unfold rst
  rw [List.any_append, low_take hlow, low_drop hlow]; rfl
 have hs : sp (rst zs a) <= 4096 := by
  rw [rst_sp]
  have h1 : 0 <= sp (zs.take a) * sp (zs.drop (a + 1)) := Int.mul_nonneg (by omega) (by omega)
  have h2 := Int.mul_le_mul_of_nonneg_left p2 h1
  have h3 : sp (zs.take a) * sp (zs.drop (a + 1)) * zs.getD a 0 = sp zs := by rw [e, Int.mul_right_comm]
  omega
 exact vE_some (by rw [rst_length ha]; omega) hl (pr_ok _ 1 (Int.le_refl _) hl (by omega))
theorem ins_length {p : List Int} {a : Nat} {k : Int} {n : Nat} (h : p.length + 1 = n) : (ins p a k).length = n := by
 unfold ins; rw [List.length_append, List.length_cons, List.length_take, List.length_drop]; omega
/-- The place of an element of a line. -/
theorem ref_off {zs : List Int} {a j k bf my af : Nat} (hv : vE zs = 0) (ha : a < zs.length) (hbf : sp (zs.take a) = bf) (hmy : zs.getD a 0 = my) (haf : sp (zs.drop (a + 1)) = af) (hj : j < bf * af) (hk : k < my) : of 0 zs (ins (pt (rst zs a) j) a k) = some ((lnF my af j + k * af : Nat) : Int) := by
 have hrv := rst_valid hv ha
 have hrs : sp (rst zs a) = ((bf * af : Nat) : Int) := by rw [rst_sp, hbf, haf]; push_cast; rfl
 have h1 := of_pt hrv (a := (j : Int)) (by omega) (by rw [hrs]; exact_mod_cast hj)
 rw [oA_ok hrv (pt_length _ _)] at h1
 have hpl := pt_length (rst zs a) (j : Int)
 rw [rst_length ha] at hpl
 obtain ⟨p, hp⟩ : ∃ p, pt (rst zs a) (j : Int) = p := ⟨_, rfl⟩
 rw [hp] at h1 hpl ⊢
 have hta : (p.take a).length = (zs.take a).length := by rw [List.length_take, List.length_take]; omega
 have htd : (p.drop a).length = (zs.drop (a + 1)).length := by rw [List.length_drop, List.length_drop]; omega
 have h2 : of 0 (zs.take a ++ zs.drop (a + 1)) (p.take a ++ p.drop a) = some (j : Int) := by rw [List.take_append_drop]; exact h1
 obtain ⟨A, hA, hC⟩ := of_appI _ _ _ _ _ _ hta h2
 obtain ⟨-, hlow, -, -, -⟩ := valid_of hv
 obtain ⟨a1, -, -⟩ := of_bd _ _ _ _ (low_take hlow a) hta hA (Int.le_refl _)
 rw [Int.zero_mul] at a1
 obtain ⟨b1, b2, b3⟩ := of_bd _ _ _ _ (low_drop hlow (a + 1)) htd hC a1
 rw [haf] at b1 b2 b3
 have e1 : zs = zs.take a ++ zs.getD a 0 :: zs.drop (a + 1) := by
  rw [<- drop_cons ha, List.take_append_drop]
 have e2 : of 0 zs (ins p a k) = of 0 (zs.take a ++ zs.getD a 0 :: zs.drop (a + 1)) (p.take a ++ (k : Int) :: p.drop a) := by rw [<- e1]; rfl
 rw [e2, of_app _ _ _ _ _ _ hta hA, of_go (by rw [hmy]; omega), of_shift _ _ _ _ _ htd hC, hmy, haf]
 refine congrArg some ?_
 obtain ⟨A, rfl⟩ : ∃ x : Nat, A = (x : Int) := ⟨A.toNat, by omega⟩
 have q3 : 1 <= af := by omega
 have b1' : A * af <= j := by exact_mod_cast b1
 have b2' : j < (A + 1) * af := by exact_mod_cast b2
 have hA2 : j / af = A := Nat.div_eq_of_lt_le b1' b2'
 have hm := Nat.div_add_mod j af
 rw [hA2] at hm
 unfold lnF
 rw [hA2]
 obtain ⟨r, hr⟩ : ∃ r, j % af = r := ⟨_, rfl⟩
 rw [hr] at hm ⊢
 rw [<- hm]
 push_cast
 grind
end Go.Proofs.YteaaikmejacpaaaGreatDoor.Te


namespace Go.Proofs.YteaaikmejacpaaaGreatDoor.Te
open Go.ChangeShapes Go.WideShapes Go.ChangeAt Go.RowKit
open Fx Va Sh
set_option maxRecDepth 8000
set_option linter.unusedVariables false
set_option linter.unusedSimpArgs false

theorem vals_ext {vs ws : List (Int × Int)} {n : Nat} (h1 : vs.length = n) (h2 : ws.length = n) (h : ∀ j, j < n -> vs.getD j (0, 0) = ws.getD j (0, 0)) : vs = ws := by
 refine List.ext_getElem (by rw [h1, h2]) fun j a b => ?_
 have hh := h j (by omega)
 rw [List.getD_eq_getElem?_getD, List.getElem?_eq_getElem a, List.getD_eq_getElem?_getD, List.getElem?_eq_getElem b] at hh
 exact hh
set_option maxRecDepth 100000 in
set_option maxHeartbeats 2000000 in
theorem bvals (q r : Option Addr) (vs ws : List (Int × Int)) (d e : Nat) (w : World) (hm : vs.length <= maxLen) (hk : ws.length <= maxLen) (RA : Hid (SlV w q vs)) (RB : Hid (SlV w r ws)) :
  Calls Tryz.prog 36 #[.slice q vs.length d, .slice r ws.length e] w fun e w' => e = .returned (.bool (decide (vs = ws))) /\ ∃ k, w' = w.drewN k := by
 unfold maxLen at hm hk
 by_cases hl : vs.length = ws.length
 ·obtain ⟨n, hn⟩ : ∃ n, vs.length = n := ⟨_, rfl⟩
  have hnm : ws.length = n := by omega
  have HN := Lib.hid hn
  have HM := Lib.hid hnm
  rw [hn] at hm ⊢
  rw [hnm]
  clear hn hnm hl hk
  go_enter Tryz.func36, Tryz.ntmps36
  go_wp2
  go_loopw [5] (fun i wr => ∃ k : Nat, i = .int .i64 k /\ k <= n /\ Hid (∀ j, j < k -> vs.getD j (0, 0) = ws.getD j (0, 0)) /\ ∃ m, wr = w.drewN m) (fun i _ => n - (intOf i).toNat)
  case atStart => exact ⟨0, rfl, by omega, Lib.hid fun j hj => by omega, 0, rfl⟩
  case round =>
   obtain ⟨k, rfl, hk, hL, m, rfl⟩ := hrel
   by_cases hlt : k < n
   ·obtain ⟨b, o, rfl, v0, v1⟩ := RA.out k (by rw [HN.out]; exact hlt)
    obtain ⟨b', o', rfl, u0, u1⟩ := RB.out k (by rw [HM.out]; exact hlt)
    obtain ⟨⟨x, x'⟩, hX⟩ : ∃ x, vs.getD k (0, 0) = x := ⟨_, rfl⟩
    obtain ⟨⟨y, y'⟩, hY⟩ : ∃ y, ws.getD k (0, 0) = y := ⟨_, rfl⟩
    rw [hX] at v0 v1
    rw [hY] at u0 u1
    dsimp only at v0 v1 u0 u1
    have HX := Lib.hid hX
    have HY := Lib.hid hY
    have mi : (0 : Int) <= k := by omega
    have mi2 : (k : Int) < n := by omega
    clear hX hY
    by_cases h1 : x = y
    ·by_cases h2 : x' = y'
     ·subst h1 h2
      go_wp2
      go_quiet (fail)
      go_wp2
      go_roundw
      case rel => exact ⟨k + 1, by go_num, by omega, Lib.hid fun j hj => by
       rcases (by omega : j < k \/ j = k) with h | rfl
       ·exact hL.out j h
       ·rw [HX.out, HY.out], m + nq, by first | rfl | rw [World.drewN_drewN]⟩
      case measure => simp [intOf]; omega
     ·subst h1
      have g1 : (x' == y') = false := by simpa using h2
      have H2 := Lib.hid h2
      clear h2
      go_wp2
      go_quiet (fail)
      go_wp2
      go_ret
      refine ⟨?_, m + nq, by first | rfl | rw [World.drewN_drewN]⟩
      refine ret_bool (decide_eq_false fun h => ?_).symm
      have h3 := HX.out
      rw [h, HY.out] at h3
      exact H2.out (congrArg Prod.snd h3).symm
    ·have g1 : (x == y) = false := by simpa using h1
     have H2 := Lib.hid h1
     clear h1
     go_wp2
     go_quiet (fail)
     go_wp2
     go_ret
     refine ⟨?_, m + nq, by first | rfl | rw [World.drewN_drewN]⟩
     refine ret_bool (decide_eq_false fun h => ?_).symm
     have h3 := HX.out
     rw [h, HY.out] at h3
     exact H2.out (congrArg Prod.fst h3).symm
   ·go_wp2
    go_ret
    refine ⟨?_, m, rfl⟩
    refine ret_bool (decide_eq_true ?_).symm
    exact vals_ext HN.out HM.out fun j hj => hL.out j (by omega)
 ·have k1 : ((vs.length : Int) != ws.length) = true := by simp <;> omega
  have k2 : (vs.length != ws.length) = true := by simpa using hl
  have k3 : (vs.length == ws.length) = false := by simpa using hl
  rw [decide_eq_false (fun h => hl (by rw [h]))]
  have HL := Lib.hid hl
  clear hl
  go_enter Tryz.func36, Tryz.ntmps36
  go_wp2
  go_ret
  exact ⟨rfl, 0, rfl⟩
end Go.Proofs.YteaaikmejacpaaaGreatDoor.Te


namespace Go.Proofs.YteaaikmejacpaaaGreatDoor.Te
open Go.ChangeShapes Go.WideShapes Go.ChangeAt Go.RowKit
open Fx Va Sh
set_option maxRecDepth 8000
set_option linter.unusedVariables false
set_option linter.unusedSimpArgs false

end Go.Proofs.YteaaikmejacpaaaGreatDoor.Te


namespace Go.Proofs.YteaaikmejacpaaaGreatDoor.Te
open Go.ChangeShapes Go.WideShapes Go.ChangeAt Go.RowKit
open Fx Va Sh
set_option maxRecDepth 8000
set_option linter.unusedVariables false
set_option linter.unusedSimpArgs false

end Go.Proofs.YteaaikmejacpaaaGreatDoor.Te


namespace Go.Proofs.YteaaikmejacpaaaGreatDoor.Te
open Go.ChangeShapes Go.WideShapes Go.ChangeAt Go.RowKit
open Fx Va Sh
set_option maxRecDepth 8000
set_option linter.unusedVariables false
set_option linter.unusedSimpArgs false

end Go.Proofs.YteaaikmejacpaaaGreatDoor.Te


namespace Go.Proofs.YteaaikmejacpaaaGreatDoor.Te
open Go.ChangeShapes Go.WideShapes Go.ChangeAt Go.RowKit
open Fx Va Sh
set_option maxRecDepth 8000
set_option linter.unusedVariables false
set_option linter.unusedSimpArgs false

set_option maxRecDepth 100000 in
set_option maxHeartbeats 2000000 in
theorem bten (K B F R O : Int) (p p' : Option Addr) (zs : List Int) (c c' : Nat) (q q' : Option Addr) (vs : List (Int × Int)) (d d' : Nat) (w : World) (hn : zs.length <= maxLen) (hm : vs.length <= maxLen) (RA : Hid (SlI w p zs)) (RB : Hid (SlV w q vs)) (RA' : Hid (SlI w p' zs)) (RB' : Hid (SlV w q' vs)) :
  Calls Tryz.prog 22 #[Tn K B F R O p zs.length c q vs.length d, Tn K B F R O p' zs.length c' q' vs.length d'] w fun e w' => e = .returned (.bool true) /\ Below w.heap.size w w' := by
 have BI := Lib.hid fun u h1 h2 => c18 p p' zs zs c c' u hn hn h1 h2
 have BV := Lib.hid fun u h1 h2 => bvals q q' vs vs d d' u hm hm h1 h2
 rw [decide_eq_true (show zs = zs from rfl)] at BI
 rw [decide_eq_true (show vs = vs from rfl)] at BV
 have K0 := Lib.hid (((Below.refl w.heap.size w).alloc (Nat.le_refl _) (Obj.cells #[Value.int .i64 K, Value.int .i64 B, Value.int .i64 F, Value.int .i64 R, Value.int .i64 O, Value.slice p zs.length c, Value.slice q vs.length d] 27)).alloc (by simp) (Obj.cells #[Value.int .i64 K, Value.int .i64 B, Value.int .i64 F, Value.int .i64 R, Value.int .i64 O, Value.slice p' zs.length c', Value.slice q' vs.length d'] 27))
 unfold Tn at *
 clear hn hm
 go_enter Tryz.func22, Tryz.ntmps22
 go_wp2_with (first | (go_at_call 28; (with_reducible refine (BI.out _ (Lib.hid (SlI.keep K0.out RA.out)) (Lib.hid (SlI.keep K0.out RA'.out))).mono ?_); rintro e w2 ⟨rfl, k1, rfl⟩) | (go_at_call 36; (with_reducible refine (BV.out _ (Lib.hid (SlV.below RB.out (below_drewN K0.out k1))) (Lib.hid (SlV.below RB'.out (below_drewN K0.out k1)))).mono ?_); rintro e w3 ⟨rfl, k2, rfl⟩))
 go_ret
 exact ⟨rfl, by first | exact below_drewN K0.out _ | exact below_drewN (below_drewN K0.out _) _⟩
end Go.Proofs.YteaaikmejacpaaaGreatDoor.Te


namespace Go.Proofs.YteaaikmejacpaaaGreatDoor.Te
open Go.ChangeShapes Go.WideShapes Go.ChangeAt Go.RowKit
open Fx Va Sh
set_option maxRecDepth 8000
set_option linter.unusedVariables false
set_option linter.unusedSimpArgs false

end Go.Proofs.YteaaikmejacpaaaGreatDoor.Te
