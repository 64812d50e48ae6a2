/- Types and numbers of the reference. -/
import Derived.Test.YteaaikmejacpaaaGreatDoorR0
import Derived.Test.YteaaikmejacpaaaGreatDoorR6
import Derived.Test.YteaaikmejacpaaaGreatDoorR10

namespace Go.Proofs.YteaaikmejacpaaaGreatDoor.Va
open Go.ChangeShapes Go.WideShapes Go.ChangeAt Go.RowKit
open Fr Fx
set_option maxRecDepth 8000
set_option linter.unusedVariables false
set_option linter.unusedSimpArgs false
set_option maxRecDepth 8000
set_option maxHeartbeats 4000000 in
theorem b_ty (K B F R O : Int) (w : World) : Calls Tryz.prog 52 #[T5 K B F R O] w (Ret (.bool (ty K B F R O)) w) := by
 by_cases hk : K = 2
 ·have e : ty K B F R O = tv K B F R O := by
   unfold ty
   rw [decide_eq_false (by omega), Bool.or_false]
  rw [e]
  by_cases h : tv K B F R O = true
  ·rw [h]; exact bt_ok K B F R O w h
  ·have h' : tv K B F R O = false := by simpa using h
   rw [h']; exact bt_bad K B F R O w h' hk
 ·have hT : tv K B F R O = false := by
   unfold tv
   exact decide_eq_false (by omega)
  rw [show ty K B F R O = decide ((K = 1 \/ K = 3) /\ B = 0 /\ F = 0 /\ R = 0 /\ O = 0) by unfold ty; rw [hT, Bool.false_or]]
  obtain ⟨r, hr⟩ : ∃ r, decide ((K = 1 \/ K = 3) /\ B = 0 /\ F = 0 /\ R = 0 /\ O = 0) = r := ⟨_, rfl⟩
  rw [hr]
  have HR := Lib.hid hr
  have k1 : (K == 2) = false := by simpa using hk
  clear hr hT hk
  go_enter Tryz.func52, Tryz.ntmps52
  go_wp2
  all_goals
   go_ret
   refine ⟨retb ?_, by go_grown⟩
   have hr := HR.out
   rw [<- hr]
   clear hr HR
   first | (simp_all; done) | (refine Bool.eq_iff_iff.mpr ?_; simp_all)
set_option maxHeartbeats 4000000 in
theorem b_int (n d : Int) (w : World) : Calls Tryz.prog 54 #[T5 3 0 0 0 0, V2 n d] w (Ret (.bool (decide (d = 1 /\ -2147483647 <= n /\ n <= 2147483647))) w) := by
 obtain ⟨r, hr⟩ : ∃ r, decide (d = 1 /\ -2147483647 <= n /\ n <= 2147483647) = r := ⟨_, rfl⟩
 rw [hr]
 have HR := Lib.hid hr
 clear hr
 go_enter Tryz.func54, Tryz.ntmps54
 go_wp2_with fail
 all_goals
  go_ret
  refine ⟨retb ?_, by go_grown⟩
  have hr := HR.out
  rw [<- hr]
  clear hr HR
  first | (simp_all; done) | (refine Bool.eq_iff_iff.mpr ?_; simp_all; done) | (refine Bool.eq_iff_iff.mpr ?_; simp_all; omega)
theorem b_vv (K B F R O n d : Int) (w : World) (h : ty K B F R O = true) : Calls Tryz.prog 54 #[T5 K B F R O, V2 n d] w (Ret (.bool (vv K B F R O n d)) w) := by
 rcases ty_cases K B F R O with ⟨_, ⟨h1, h2⟩ | ⟨h1, rfl, rfl, rfl, rfl, _⟩⟩ | ⟨h3, _⟩
 ·rw [vv_fix h1]; exact bvk K B F R O n d w h2
 ·rcases h1 with rfl | rfl
  ·rw [vv_frac]; exact bval_any n d w
  ·rw [vv_int]; exact b_int n d w
 ·rw [h] at h3; cases h3

theorem step_any (K B F R O p : Int) (w : World) (f0 : 0 <= F) (f1 : F <= 30) (hp : (2 : Int) ^ F.toNat = p) (p0 : 1 <= p) (p1 : p <= 1073741824) : Calls Tryz.prog 119 #[T5 K B F R O] w (Ret (.int .i64 p) w) := by
 go_enter Tryz.func119, Tryz.ntmps119
 go_wp2
 go_ret
 exact ⟨rfl, by go_grown⟩
theorem r_va (K B F R O n d : Int) (w : World) : Calls Tryz.prog 115 #[T5 K B F R O, V2 n d] w (Ret (.bool (vv K B F R O n d)) w) := by
 have BT := Lib.hid fun w => b_ty K B F R O w
 cases h : ty K B F R O
 ·rw [h] at BT
  rw [vv_bad h]
  clear h
  go_enter Tryz.func115, Tryz.ntmps115
  go_wp2_with (first | (go_at_call 52; (with_reducible refine (BT.out _).mono ?_); rintro e w1 ⟨rfl, hb1⟩; have hc1 := (bcell hb1).1; have hf1 := (bcell hb1).2; have z1_0 : w.heap.size < w1.heap.size := SqB.z hb1; have z1_1 : w.heap.size + 1 < w1.heap.size := SqB.z hb1; have K1 : Below w.heap.size w w1 := SqB.t hb1))
  go_ret
  exact ⟨rfl, K1⟩
 ·rw [h] at BT
  have BV := Lib.hid fun w => b_vv K B F R O n d w h
  clear h
  go_enter Tryz.func115, Tryz.ntmps115
  go_wp2_with (first | (go_at_call 52; (with_reducible refine (BT.out _).mono ?_); rintro e w1 ⟨rfl, hb1⟩; have hc1 := (bcell hb1).1; have hf1 := (bcell hb1).2; have z1_0 : w.heap.size < w1.heap.size := SqB.z hb1; have z1_1 : w.heap.size + 1 < w1.heap.size := SqB.z hb1; have K1 : Below w.heap.size w w1 := SqB.t hb1) | (go_at_call 54; (with_reducible refine (BV.out _).mono ?_); rintro e w2 ⟨rfl, hb2⟩; have hc2 := (bcell hb2).1; have hf2 := (bcell hb2).2; have z2_0 : w.heap.size < w2.heap.size := SqB.z hb2; have z2_1 : w.heap.size + 1 < w2.heap.size := SqB.z hb2; have K2 : Below w.heap.size w w2 := SqB.t hb2))
  go_ret
  exact ⟨rfl, K2⟩
theorem r_zero (K B F R O : Int) (w : World) : Calls Tryz.prog 130 #[T5 K B F R O] w (Ret (V2 0 (if ty K B F R O then 1 else 0)) w) := by
 have VT := Lib.hid fun w => b_ty K B F R O w
 cases h : ty K B F R O
 ·rw [h] at VT
  clear h
  go_enter Tryz.func130, Tryz.ntmps130
  go_wp2_with (first | (go_at_call 52; (with_reducible refine (VT.out _).mono ?_); rintro e w1 ⟨rfl, hb1⟩; have hc1 := (bcell hb1).1; have hf1 := (bcell hb1).2; have z1_0 : w.heap.size < w1.heap.size := SqB.z hb1; have z1_1 : w.heap.size + 1 < w1.heap.size := SqB.z hb1; have K1 : Below w.heap.size w w1 := SqB.t hb1))
  refine bodyPost_ret (v := V2 0 0) (by simp [results, Tryz.results130, go_sem, hc1, hf1, SqB.n z1_0, SqB.n z1_1]) rfl ⟨rfl, ?_⟩; exact SqB.b
 ·rw [h] at VT
  clear h
  go_enter Tryz.func130, Tryz.ntmps130
  go_wp2_with (first | (go_at_call 52; (with_reducible refine (VT.out _).mono ?_); rintro e w1 ⟨rfl, hb1⟩; have hc1 := (bcell hb1).1; have hf1 := (bcell hb1).2; have z1_0 : w.heap.size < w1.heap.size := SqB.z hb1; have z1_1 : w.heap.size + 1 < w1.heap.size := SqB.z hb1; have K1 : Below w.heap.size w w1 := SqB.t hb1))
  refine bodyPost_ret (v := V2 0 1) (by simp [results, Tryz.results130, go_sem, hc1, hf1, SqB.n z1_0, SqB.n z1_1]) rfl ⟨rfl, ?_⟩; exact SqB.b
set_option maxHeartbeats 4000000 in
theorem r_one (K B F R O : Int) (w : World) : Calls Tryz.prog 131 #[T5 K B F R O] w (Ret (F3 (onv K B F R O)) w) := by
 have VT := Lib.hid fun w => b_ty K B F R O w
 cases h : ty K B F R O
 ·rw [h] at VT
  rw [show onv K B F R O = (0, 0, 10) by unfold onv; rw [h]; rfl]
  clear h
  go_enter Tryz.func131, Tryz.ntmps131
  go_wp2_with (first | (go_at_call 52; (with_reducible refine (VT.out _).mono ?_); rintro e w1 ⟨rfl, hb1⟩; have hc1 := (bcell hb1).1; have hf1 := (bcell hb1).2; have z1_0 : w.heap.size < w1.heap.size := SqB.z hb1; have z1_1 : w.heap.size + 1 < w1.heap.size := SqB.z hb1; have K1 : Below w.heap.size w w1 := SqB.t hb1))
  refine bodyPost_ret (v := Frac3 0 0 10) (by simp [results, Tryz.results131, go_sem, hc1, hf1, SqB.n z1_0, SqB.n z1_1]) rfl ⟨rfl, ?_⟩; exact SqB.b
 ·rw [h] at VT
  have HV := Lib.hid fun n d w => b_vv K B F R O n d w h
  by_cases hk : K = 2
  ·have ht : tv K B F R O = true := by
    rcases ty_cases K B F R O with ⟨_, h3 | h3⟩ | ⟨h3, _⟩
    ·exact h3.2
    ·exact absurd hk (by omega)
    ·rw [h] at h3; cases h3
   obtain ⟨-, -, -, f0, f1, -, -, -⟩ := tv_parts ht
   obtain ⟨p0, p1⟩ := two_pow F f0 f1
   rw [show onv K B F R O = (if fv K B F R O (2 ^ F.toNat) 1 then (2 ^ F.toNat, 1, 0) else (0, 0, 3)) by unfold onv; rw [h, if_neg (by decide), if_pos hk]]
   have k1 : (K == 2) = true := by simpa using hk
   have VA := Lib.hid fun w => HV.out (2 ^ F.toNat) 1 w
   rw [vv_fix hk] at VA
   clear HV hk ht h
   obtain ⟨p, hp⟩ : ∃ p, (2 : Int) ^ F.toNat = p := ⟨_, rfl⟩
   rw [hp] at p0 p1 VA ⊢
   have SP := Lib.hid fun w => step_any K B F R O p w f0 f1 hp p0 p1
   clear hp f0 f1 p0 p1
   cases h2 : fv K B F R O p 1
   ·rw [h2] at VA
    clear h2
    go_enter Tryz.func131, Tryz.ntmps131
    go_wp2_with (first | (go_at_call 52; (with_reducible refine (VT.out _).mono ?_); rintro e w1 ⟨rfl, hb1⟩; have hc1 := (bcell hb1).1; have hf1 := (bcell hb1).2; have z1_0 : w.heap.size < w1.heap.size := SqB.z hb1; have z1_1 : w.heap.size + 1 < w1.heap.size := SqB.z hb1; have K1 : Below w.heap.size w w1 := SqB.t hb1) | (go_at_call 119; (with_reducible refine (SP.out _).mono ?_); rintro e w2 ⟨rfl, hb2⟩; have hc2 := (bcell hb2).1; have hf2 := (bcell hb2).2; have z2_0 : w.heap.size < w2.heap.size := SqB.z hb2; have z2_1 : w.heap.size + 1 < w2.heap.size := SqB.z hb2; have z2_2 : w1.heap.size < w2.heap.size := SqB.z hb2; have K2 : Below w.heap.size w w2 := SqB.t hb2) | (go_at_call 54; (with_reducible refine (VA.out _).mono ?_); rintro e w3 ⟨rfl, hb3⟩; have hc3 := (bcell hb3).1; have hf3 := (bcell hb3).2; have z3_0 : w.heap.size < w3.heap.size := SqB.z hb3; have z3_1 : w.heap.size + 1 < w3.heap.size := SqB.z hb3; have z3_2 : w1.heap.size < w3.heap.size := SqB.z hb3; have K3 : Below w.heap.size w w3 := SqB.t hb3))
    refine bodyPost_ret (v := Frac3 0 0 3) (by simp [results, Tryz.results131, go_sem, hc1, hf1, hc2, hf2, hc3, hf3, SqB.n z1_0, SqB.n z1_1, SqB.n z2_0, SqB.n z2_1, SqB.n z2_2, SqB.n z3_0, SqB.n z3_1, SqB.n z3_2]) rfl ⟨rfl, ?_⟩; exact SqB.b
   ·rw [h2] at VA
    clear h2
    go_enter Tryz.func131, Tryz.ntmps131
    go_wp2_with (first | (go_at_call 52; (with_reducible refine (VT.out _).mono ?_); rintro e w1 ⟨rfl, hb1⟩; have hc1 := (bcell hb1).1; have hf1 := (bcell hb1).2; have z1_0 : w.heap.size < w1.heap.size := SqB.z hb1; have z1_1 : w.heap.size + 1 < w1.heap.size := SqB.z hb1; have K1 : Below w.heap.size w w1 := SqB.t hb1) | (go_at_call 119; (with_reducible refine (SP.out _).mono ?_); rintro e w2 ⟨rfl, hb2⟩; have hc2 := (bcell hb2).1; have hf2 := (bcell hb2).2; have z2_0 : w.heap.size < w2.heap.size := SqB.z hb2; have z2_1 : w.heap.size + 1 < w2.heap.size := SqB.z hb2; have z2_2 : w1.heap.size < w2.heap.size := SqB.z hb2; have K2 : Below w.heap.size w w2 := SqB.t hb2) | (go_at_call 54; (with_reducible refine (VA.out _).mono ?_); rintro e w3 ⟨rfl, hb3⟩; have hc3 := (bcell hb3).1; have hf3 := (bcell hb3).2; have z3_0 : w.heap.size < w3.heap.size := SqB.z hb3; have z3_1 : w.heap.size + 1 < w3.heap.size := SqB.z hb3; have z3_2 : w1.heap.size < w3.heap.size := SqB.z hb3; have K3 : Below w.heap.size w w3 := SqB.t hb3))
    refine bodyPost_ret (v := Frac3 p 1 0) (by simp [results, Tryz.results131, go_sem, hc1, hf1, hc2, hf2, hc3, hf3, SqB.n z1_0, SqB.n z1_1, SqB.n z2_0, SqB.n z2_1, SqB.n z2_2, SqB.n z3_0, SqB.n z3_1, SqB.n z3_2]) rfl ⟨rfl, ?_⟩; exact SqB.b
  ·rw [show onv K B F R O = (1, 1, 0) by unfold onv; rw [h, if_neg (by decide), if_neg hk]]
   have hv : vv K B F R O 1 1 = true := by
    unfold vv
    rw [if_neg hk, h]
    split <;> decide
   have k1 : (K == 2) = false := by simpa using hk
   have VA := Lib.hid fun w => HV.out 1 1 w
   rw [hv] at VA
   clear HV hk h hv
   go_enter Tryz.func131, Tryz.ntmps131
   go_wp2_with (first | (go_at_call 52; (with_reducible refine (VT.out _).mono ?_); rintro e w1 ⟨rfl, hb1⟩; have hc1 := (bcell hb1).1; have hf1 := (bcell hb1).2; have z1_0 : w.heap.size < w1.heap.size := SqB.z hb1; have z1_1 : w.heap.size + 1 < w1.heap.size := SqB.z hb1; have K1 : Below w.heap.size w w1 := SqB.t hb1) | (go_at_call 54; (with_reducible refine (VA.out _).mono ?_); rintro e w2 ⟨rfl, hb2⟩; have hc2 := (bcell hb2).1; have hf2 := (bcell hb2).2; have z2_0 : w.heap.size < w2.heap.size := SqB.z hb2; have z2_1 : w.heap.size + 1 < w2.heap.size := SqB.z hb2; have K2 : Below w.heap.size w w2 := SqB.t hb2))
   refine bodyPost_ret (v := Frac3 1 1 0) (by simp [results, Tryz.results131, go_sem, hc1, hf1, hc2, hf2, SqB.n z1_0, SqB.n z1_1, SqB.n z2_0, SqB.n z2_1]) rfl ⟨rfl, ?_⟩; exact SqB.b
end Go.Proofs.YteaaikmejacpaaaGreatDoor.Va


namespace Go.Proofs.YteaaikmejacpaaaGreatDoor.Te
open Go.ChangeShapes Go.WideShapes Go.ChangeAt Go.RowKit
open Fx Va Sh
set_option maxRecDepth 8000
set_option linter.unusedVariables false
set_option linter.unusedSimpArgs false

set_option maxRecDepth 100000 in
set_option maxHeartbeats 8000000 in
theorem rv_a (K B F R O : Int) (p : Option Addr) (zs : List Int) (c : Nat) (q : Option Addr) (vs : List (Int × Int)) (d : Nat) (w : World) (hn : zs.length <= maxLen) (hm : vs.length <= maxLen) (RA : Hid (SlI w p zs)) (RB : Hid (SlV w q vs)) (ht : ty K B F R O = false) :
  Calls Tryz.prog 21 #[Tn K B F R O p zs.length c q vs.length d] w fun e w' => e = .returned (.int .i64 10) /\ Below w.heap.size w w' := by
 have VT0 := fun w => b_ty K B F R O w
 rw [ht] at VT0
 have VT := Lib.hid VT0
 obtain ⟨m, hmm⟩ : ∃ m, vs.length = m := ⟨_, rfl⟩
 have HM := Lib.hid hmm
 rw [hmm] at hm ⊢
 have B0 : Hid (Below w.heap.size w (w.alloc (Obj.cells #[Value.int .i64 K, Value.int .i64 B, Value.int .i64 F, Value.int .i64 R, Value.int .i64 O, Value.slice p zs.length c, Value.slice q m d] 27))) := Lib.hid ((Below.refl _ _).alloc (Nat.le_refl _) _)
 clear VT0 ht hmm
 go_enter Tryz.func21, Tryz.ntmps21
 go_wp2_with (go_at_call 52; (with_reducible refine (VT.out _).mono ?_); rintro e w1 ⟨rfl, hb⟩; have KB := Lib.hid (B0.out.trans (hb.mono B0.out.size)); have c0 : w1.cell? ⟨w.heap.size, 0, none⟩ = some (.int .i64 K) := Rg.keep hb (by simp) (by go_cell); have c1 : w1.cell? ⟨w.heap.size, 1, none⟩ = some (.int .i64 B) := Rg.keep hb (by simp) (by go_cell); have c2 : w1.cell? ⟨w.heap.size, 2, none⟩ = some (.int .i64 F) := Rg.keep hb (by simp) (by go_cell); have c3 : w1.cell? ⟨w.heap.size, 3, none⟩ = some (.int .i64 R) := Rg.keep hb (by simp) (by go_cell); have c4 : w1.cell? ⟨w.heap.size, 4, none⟩ = some (.int .i64 O) := Rg.keep hb (by simp) (by go_cell); have c5 : w1.cell? ⟨w.heap.size, 5, none⟩ = some (.slice p zs.length c) := Rg.keep hb (by simp) (by go_cell); have c6 : w1.cell? ⟨w.heap.size, 6, none⟩ = some (.slice q m d) := Rg.keep hb (by simp) (by go_cell); have lg1 : w.heap.size < w1.heap.size := World.block_lt_of_cell? _ _ c0; clear hb)
 go_ret
 exact ⟨rfl, KB.out⟩

set_option maxRecDepth 100000 in
set_option maxHeartbeats 8000000 in
theorem rv_b (K B F R O : Int) (p : Option Addr) (zs : List Int) (c : Nat) (q : Option Addr) (vs : List (Int × Int)) (d : Nat) (w : World) (hn : zs.length <= maxLen) (hm : vs.length <= maxLen) (RA : Hid (SlI w p zs)) (RB : Hid (SlV w q vs)) (ht : ty K B F R O = true) (hv : (vE zs != 0) = true) :
  Calls Tryz.prog 21 #[Tn K B F R O p zs.length c q vs.length d] w fun e w' => e = .returned (.int .i64 (vE zs)) /\ Below w.heap.size w w' := by
 have VT0 := fun w => b_ty K B F R O w
 rw [ht] at VT0
 have VT := Lib.hid VT0
 have SV0 := fun w h => rshape p zs c w hn h
 obtain ⟨V, hV⟩ : ∃ V, vE zs = V := ⟨_, rfl⟩
 rw [hV] at SV0 hv ⊢
 have SV := Lib.hid SV0
 obtain ⟨m, hmm⟩ : ∃ m, vs.length = m := ⟨_, rfl⟩
 have HM := Lib.hid hmm
 rw [hmm] at hm ⊢
 have B0 : Hid (Below w.heap.size w (w.alloc (Obj.cells #[Value.int .i64 K, Value.int .i64 B, Value.int .i64 F, Value.int .i64 R, Value.int .i64 O, Value.slice p zs.length c, Value.slice q m d] 27))) := Lib.hid ((Below.refl _ _).alloc (Nat.le_refl _) _)
 have hv2 : (V == 0) = false := by simpa using hv
 clear VT0 ht hmm SV0 hV
 go_enter Tryz.func21, Tryz.ntmps21
 go_wp2_with (first | (go_at_call 52; (with_reducible refine (VT.out _).mono ?_); rintro e w1 ⟨rfl, hb⟩; have KB := Lib.hid (B0.out.trans (hb.mono B0.out.size)); have c0 : w1.cell? ⟨w.heap.size, 0, none⟩ = some (.int .i64 K) := Rg.keep hb (by simp) (by go_cell); have c1 : w1.cell? ⟨w.heap.size, 1, none⟩ = some (.int .i64 B) := Rg.keep hb (by simp) (by go_cell); have c2 : w1.cell? ⟨w.heap.size, 2, none⟩ = some (.int .i64 F) := Rg.keep hb (by simp) (by go_cell); have c3 : w1.cell? ⟨w.heap.size, 3, none⟩ = some (.int .i64 R) := Rg.keep hb (by simp) (by go_cell); have c4 : w1.cell? ⟨w.heap.size, 4, none⟩ = some (.int .i64 O) := Rg.keep hb (by simp) (by go_cell); have c5 : w1.cell? ⟨w.heap.size, 5, none⟩ = some (.slice p zs.length c) := Rg.keep hb (by simp) (by go_cell); have c6 : w1.cell? ⟨w.heap.size, 6, none⟩ = some (.slice q m d) := Rg.keep hb (by simp) (by go_cell); have lg1 : w.heap.size < w1.heap.size := World.block_lt_of_cell? _ _ c0; clear hb) | (go_at_call 53; (with_reducible refine (SV.out _ (Lib.hid (SlI.keep KB.out RA.out))).mono ?_); rintro e w2 ⟨rfl, hb2⟩; replace c0 := Rg.keep hb2 lg1 c0; replace c1 := Rg.keep hb2 lg1 c1; replace c2 := Rg.keep hb2 lg1 c2; replace c3 := Rg.keep hb2 lg1 c3; replace c4 := Rg.keep hb2 lg1 c4; replace c5 := Rg.keep hb2 lg1 c5; replace c6 := Rg.keep hb2 lg1 c6; have KB2 := Lib.hid (KB.out.trans (hb2.mono KB.out.size)); clear hb2))
 go_ret
 exact ⟨rfl, KB2.out⟩

set_option maxRecDepth 100000 in
set_option maxHeartbeats 8000000 in
theorem rv_c (K B F R O : Int) (p : Option Addr) (zs : List Int) (c : Nat) (q : Option Addr) (vs : List (Int × Int)) (d : Nat) (w : World) (hn : zs.length <= maxLen) (hm : vs.length <= maxLen) (RA : Hid (SlI w p zs)) (RB : Hid (SlV w q vs)) (ht : ty K B F R O = true) (hv : vE zs = 0) (hl : ((vs.length : Int) != sp zs) = true) :
  Calls Tryz.prog 21 #[Tn K B F R O p zs.length c q vs.length d] w fun e w' => e = .returned (.int .i64 1) /\ Below w.heap.size w w' := by
 have VT0 := fun w => b_ty K B F R O w
 rw [ht] at VT0
 have VT := Lib.hid VT0
 have SV0 := fun w h => rshape p zs c w hn h
 rw [hv] at SV0
 have SV := Lib.hid SV0
 have SZ0 := fun w h => rsize p zs c w h hv
 obtain ⟨SP, hSP⟩ : ∃ SP, sp zs = SP := ⟨_, rfl⟩
 rw [hSP] at SZ0 hl
 obtain ⟨m, hmm⟩ : ∃ m, vs.length = m := ⟨_, rfl⟩
 have HM := Lib.hid hmm
 rw [hmm] at hm hl ⊢
 have SZ := Lib.hid SZ0
 have B0 : Hid (Below w.heap.size w (w.alloc (Obj.cells #[Value.int .i64 K, Value.int .i64 B, Value.int .i64 F, Value.int .i64 R, Value.int .i64 O, Value.slice p zs.length c, Value.slice q m d] 27))) := Lib.hid ((Below.refl _ _).alloc (Nat.le_refl _) _)
 clear VT0 ht hmm SV0 SZ0 hSP hv
 go_enter Tryz.func21, Tryz.ntmps21
 go_wp2_with (first | (go_at_call 52; (with_reducible refine (VT.out _).mono ?_); rintro e w1 ⟨rfl, hb⟩; have KB := Lib.hid (B0.out.trans (hb.mono B0.out.size)); have c0 : w1.cell? ⟨w.heap.size, 0, none⟩ = some (.int .i64 K) := Rg.keep hb (by simp) (by go_cell); have c1 : w1.cell? ⟨w.heap.size, 1, none⟩ = some (.int .i64 B) := Rg.keep hb (by simp) (by go_cell); have c2 : w1.cell? ⟨w.heap.size, 2, none⟩ = some (.int .i64 F) := Rg.keep hb (by simp) (by go_cell); have c3 : w1.cell? ⟨w.heap.size, 3, none⟩ = some (.int .i64 R) := Rg.keep hb (by simp) (by go_cell); have c4 : w1.cell? ⟨w.heap.size, 4, none⟩ = some (.int .i64 O) := Rg.keep hb (by simp) (by go_cell); have c5 : w1.cell? ⟨w.heap.size, 5, none⟩ = some (.slice p zs.length c) := Rg.keep hb (by simp) (by go_cell); have c6 : w1.cell? ⟨w.heap.size, 6, none⟩ = some (.slice q m d) := Rg.keep hb (by simp) (by go_cell); have lg1 : w.heap.size < w1.heap.size := World.block_lt_of_cell? _ _ c0; clear hb) | (go_at_call 53; (with_reducible refine (SV.out _ (Lib.hid (SlI.keep KB.out RA.out))).mono ?_); rintro e w2 ⟨rfl, hb2⟩; replace c0 := Rg.keep hb2 lg1 c0; replace c1 := Rg.keep hb2 lg1 c1; replace c2 := Rg.keep hb2 lg1 c2; replace c3 := Rg.keep hb2 lg1 c3; replace c4 := Rg.keep hb2 lg1 c4; replace c5 := Rg.keep hb2 lg1 c5; replace c6 := Rg.keep hb2 lg1 c6; have KB2 := Lib.hid (KB.out.trans (hb2.mono KB.out.size)); clear hb2))
 have RD := Lib.hid (SlI.keep KB2.out RA.out)
 have HS : Hid (∀ u u' : World, (u.cell? ⟨w.heap.size, 0, none⟩ = some (.int .i64 K) /\ u.cell? ⟨w.heap.size, 1, none⟩ = some (.int .i64 B) /\ u.cell? ⟨w.heap.size, 2, none⟩ = some (.int .i64 F) /\ u.cell? ⟨w.heap.size, 3, none⟩ = some (.int .i64 R) /\ u.cell? ⟨w.heap.size, 4, none⟩ = some (.int .i64 O) /\ u.cell? ⟨w.heap.size, 5, none⟩ = some (.slice p zs.length c) /\ u.cell? ⟨w.heap.size, 6, none⟩ = some (.slice q m d) /\ Below w2.heap.size w2 u) -> Below u.heap.size u u' -> (u'.cell? ⟨w.heap.size, 0, none⟩ = some (.int .i64 K) /\ u'.cell? ⟨w.heap.size, 1, none⟩ = some (.int .i64 B) /\ u'.cell? ⟨w.heap.size, 2, none⟩ = some (.int .i64 F) /\ u'.cell? ⟨w.heap.size, 3, none⟩ = some (.int .i64 R) /\ u'.cell? ⟨w.heap.size, 4, none⟩ = some (.int .i64 O) /\ u'.cell? ⟨w.heap.size, 5, none⟩ = some (.slice p zs.length c) /\ u'.cell? ⟨w.heap.size, 6, none⟩ = some (.slice q m d) /\ Below w2.heap.size w2 u')) := Lib.hid (fun u u' h hb => ⟨Rg.keep hb (World.block_lt_of_cell? _ _ h.1) h.1, Rg.keep hb (World.block_lt_of_cell? _ _ h.2.1) h.2.1, Rg.keep hb (World.block_lt_of_cell? _ _ h.2.2.1) h.2.2.1, Rg.keep hb (World.block_lt_of_cell? _ _ h.2.2.2.1) h.2.2.2.1, Rg.keep hb (World.block_lt_of_cell? _ _ h.2.2.2.2.1) h.2.2.2.2.1, Rg.keep hb (World.block_lt_of_cell? _ _ h.2.2.2.2.2.1) h.2.2.2.2.2.1, Rg.keep hb (World.block_lt_of_cell? _ _ h.2.2.2.2.2.2.1) h.2.2.2.2.2.2.1, h.2.2.2.2.2.2.2.trans (hb.mono h.2.2.2.2.2.2.2.size)⟩)
 refine Rk.begin (S := fun wS => wS.cell? ⟨w.heap.size, 0, none⟩ = some (.int .i64 K) /\ wS.cell? ⟨w.heap.size, 1, none⟩ = some (.int .i64 B) /\ wS.cell? ⟨w.heap.size, 2, none⟩ = some (.int .i64 F) /\ wS.cell? ⟨w.heap.size, 3, none⟩ = some (.int .i64 R) /\ wS.cell? ⟨w.heap.size, 4, none⟩ = some (.int .i64 O) /\ wS.cell? ⟨w.heap.size, 5, none⟩ = some (.slice p zs.length c) /\ wS.cell? ⟨w.heap.size, 6, none⟩ = some (.slice q m d) /\ Below w2.heap.size w2 wS) 6 (by kernel_rfl) ⟨c0, c1, c2, c3, c4, c5, c6, Below.drew (Below.refl _ _)⟩ (fun hHeld => ?_)
 refine SqR.p 0 ?_
 refine SqR.l [2, 6] 1 ?_
 refine SqR.p 2 ?_
 refine SqR.p 3 ?_
 refine SqR.l [5, 6] 4 ?_
 refine Rk.one (i := 5) (by kernel_rfl) rfl (fun KK hK => ?_)
 rw [if_pos (by kernel_rfl)]
 go_simp
 ((with_reducible refine (SZ.out _ (Lib.hid (SlI.keep (hHeld.2.2.2.2.2.2.2) RD.out))).mono ?_); rintro e w9 ⟨rfl, rfl⟩)
 first | (refine hK.out _ _ (fun _ => hHeld) (fun hHeld => ?_)) | (refine hK.out _ _ hHeld (fun hHeld => ?_)) | (go_wp2_with fail; refine hK.out _ _ hHeld (fun hHeld => ?_))
 clear hK KK
 refine Rk.tail [6] [_] (by kernel_rfl) (by kernel_rfl) rfl (by decide) ?_

 have K9 := KB2.out.trans ((hHeld.2.2.2.2.2.2.2).mono KB2.out.size)
 clear hHeld HS
 go_wp2_with fail
 go_ret
 exact ⟨rfl, K9⟩

set_option maxRecDepth 100000 in
set_option maxHeartbeats 8000000 in
theorem rv_d (K B F R O : Int) (p : Option Addr) (zs : List Int) (c : Nat) (q : Option Addr) (vs : List (Int × Int)) (d : Nat) (w : World) (hn : zs.length <= maxLen) (hm : vs.length <= maxLen) (RA : Hid (SlI w p zs)) (RB : Hid (SlV w q vs)) (ht : ty K B F R O = true) (hv : vE zs = 0) (hl : ((vs.length : Int) != sp zs) = false) :
  Calls Tryz.prog 21 #[Tn K B F R O p zs.length c q vs.length d] w fun e w' => e = .returned (.int .i64 (if vs.any (badV K B F R O) = true then 1 else 0)) /\ Below w.heap.size w w' := by
 have VT0 := fun w => b_ty K B F R O w
 rw [ht] at VT0
 have VT := Lib.hid VT0
 have SV0 := fun w h => rshape p zs c w hn h
 rw [hv] at SV0
 have SV := Lib.hid SV0
 have SZ0 := fun w h => rsize p zs c w h hv
 have BVV := Lib.hid fun n d w => b_vv K B F R O n d w ht
 obtain ⟨RES, hRES⟩ : ∃ RES : Int, (if vs.any (badV K B F R O) = true then 1 else 0) = RES := ⟨_, rfl⟩
 rw [hRES]
 have HRES := Lib.hid hRES
 obtain ⟨SP, hSP⟩ : ∃ SP, sp zs = SP := ⟨_, rfl⟩
 rw [hSP] at SZ0 hl
 obtain ⟨m, hmm⟩ : ∃ m, vs.length = m := ⟨_, rfl⟩
 have HM := Lib.hid hmm
 rw [hmm] at hm hl ⊢
 unfold maxLen at hm
 have SZ := Lib.hid SZ0
 have B0 : Hid (Below w.heap.size w (w.alloc (Obj.cells #[Value.int .i64 K, Value.int .i64 B, Value.int .i64 F, Value.int .i64 R, Value.int .i64 O, Value.slice p zs.length c, Value.slice q m d] 27))) := Lib.hid ((Below.refl _ _).alloc (Nat.le_refl _) _)
 clear VT0 ht hmm SV0 SZ0 hSP hv hRES
 go_enter Tryz.func21, Tryz.ntmps21
 go_wp2_with (first | (go_at_call 52; (with_reducible refine (VT.out _).mono ?_); rintro e w1 ⟨rfl, hb⟩; have KB := Lib.hid (B0.out.trans (hb.mono B0.out.size)); have c0 : w1.cell? ⟨w.heap.size, 0, none⟩ = some (.int .i64 K) := Rg.keep hb (by simp) (by go_cell); have c1 : w1.cell? ⟨w.heap.size, 1, none⟩ = some (.int .i64 B) := Rg.keep hb (by simp) (by go_cell); have c2 : w1.cell? ⟨w.heap.size, 2, none⟩ = some (.int .i64 F) := Rg.keep hb (by simp) (by go_cell); have c3 : w1.cell? ⟨w.heap.size, 3, none⟩ = some (.int .i64 R) := Rg.keep hb (by simp) (by go_cell); have c4 : w1.cell? ⟨w.heap.size, 4, none⟩ = some (.int .i64 O) := Rg.keep hb (by simp) (by go_cell); have c5 : w1.cell? ⟨w.heap.size, 5, none⟩ = some (.slice p zs.length c) := Rg.keep hb (by simp) (by go_cell); have c6 : w1.cell? ⟨w.heap.size, 6, none⟩ = some (.slice q m d) := Rg.keep hb (by simp) (by go_cell); have lg1 : w.heap.size < w1.heap.size := World.block_lt_of_cell? _ _ c0; clear hb) | (go_at_call 53; (with_reducible refine (SV.out _ (Lib.hid (SlI.keep KB.out RA.out))).mono ?_); rintro e w2 ⟨rfl, hb2⟩; replace c0 := Rg.keep hb2 lg1 c0; replace c1 := Rg.keep hb2 lg1 c1; replace c2 := Rg.keep hb2 lg1 c2; replace c3 := Rg.keep hb2 lg1 c3; replace c4 := Rg.keep hb2 lg1 c4; replace c5 := Rg.keep hb2 lg1 c5; replace c6 := Rg.keep hb2 lg1 c6; have KB2 := Lib.hid (KB.out.trans (hb2.mono KB.out.size)); clear hb2))
 have RD := Lib.hid (SlI.keep KB2.out RA.out)
 have HS : Hid (∀ u u' : World, (u.cell? ⟨w.heap.size, 0, none⟩ = some (.int .i64 K) /\ u.cell? ⟨w.heap.size, 1, none⟩ = some (.int .i64 B) /\ u.cell? ⟨w.heap.size, 2, none⟩ = some (.int .i64 F) /\ u.cell? ⟨w.heap.size, 3, none⟩ = some (.int .i64 R) /\ u.cell? ⟨w.heap.size, 4, none⟩ = some (.int .i64 O) /\ u.cell? ⟨w.heap.size, 5, none⟩ = some (.slice p zs.length c) /\ u.cell? ⟨w.heap.size, 6, none⟩ = some (.slice q m d) /\ Below w2.heap.size w2 u) -> Below u.heap.size u u' -> (u'.cell? ⟨w.heap.size, 0, none⟩ = some (.int .i64 K) /\ u'.cell? ⟨w.heap.size, 1, none⟩ = some (.int .i64 B) /\ u'.cell? ⟨w.heap.size, 2, none⟩ = some (.int .i64 F) /\ u'.cell? ⟨w.heap.size, 3, none⟩ = some (.int .i64 R) /\ u'.cell? ⟨w.heap.size, 4, none⟩ = some (.int .i64 O) /\ u'.cell? ⟨w.heap.size, 5, none⟩ = some (.slice p zs.length c) /\ u'.cell? ⟨w.heap.size, 6, none⟩ = some (.slice q m d) /\ Below w2.heap.size w2 u')) := Lib.hid (fun u u' h hb => ⟨Rg.keep hb (World.block_lt_of_cell? _ _ h.1) h.1, Rg.keep hb (World.block_lt_of_cell? _ _ h.2.1) h.2.1, Rg.keep hb (World.block_lt_of_cell? _ _ h.2.2.1) h.2.2.1, Rg.keep hb (World.block_lt_of_cell? _ _ h.2.2.2.1) h.2.2.2.1, Rg.keep hb (World.block_lt_of_cell? _ _ h.2.2.2.2.1) h.2.2.2.2.1, Rg.keep hb (World.block_lt_of_cell? _ _ h.2.2.2.2.2.1) h.2.2.2.2.2.1, Rg.keep hb (World.block_lt_of_cell? _ _ h.2.2.2.2.2.2.1) h.2.2.2.2.2.2.1, h.2.2.2.2.2.2.2.trans (hb.mono h.2.2.2.2.2.2.2.size)⟩)
 refine Rk.begin (S := fun wS => wS.cell? ⟨w.heap.size, 0, none⟩ = some (.int .i64 K) /\ wS.cell? ⟨w.heap.size, 1, none⟩ = some (.int .i64 B) /\ wS.cell? ⟨w.heap.size, 2, none⟩ = some (.int .i64 F) /\ wS.cell? ⟨w.heap.size, 3, none⟩ = some (.int .i64 R) /\ wS.cell? ⟨w.heap.size, 4, none⟩ = some (.int .i64 O) /\ wS.cell? ⟨w.heap.size, 5, none⟩ = some (.slice p zs.length c) /\ wS.cell? ⟨w.heap.size, 6, none⟩ = some (.slice q m d) /\ Below w2.heap.size w2 wS) 6 (by kernel_rfl) ⟨c0, c1, c2, c3, c4, c5, c6, Below.drew (Below.refl _ _)⟩ (fun hHeld => ?_)
 refine SqR.p 0 ?_
 refine SqR.l [2, 6] 1 ?_
 refine SqR.p 2 ?_
 refine SqR.p 3 ?_
 refine SqR.l [5, 6] 4 ?_
 refine Rk.one (i := 5) (by kernel_rfl) rfl (fun KK hK => ?_)
 rw [if_pos (by kernel_rfl)]
 go_simp
 ((with_reducible refine (SZ.out _ (Lib.hid (SlI.keep (hHeld.2.2.2.2.2.2.2) RD.out))).mono ?_); rintro e w9 ⟨rfl, rfl⟩)
 first | (refine hK.out _ _ (fun _ => hHeld) (fun hHeld => ?_)) | (refine hK.out _ _ hHeld (fun hHeld => ?_)) | (go_wp2_with fail; refine hK.out _ _ hHeld (fun hHeld => ?_))
 clear hK KK
 refine Rk.tail [6] [_] (by kernel_rfl) (by kernel_rfl) rfl (by decide) ?_

 obtain ⟨c0', c1', c2', c3', c4', c5', c6', K6⟩ := hHeld
 have KB3 := Lib.hid (KB2.out.trans (K6.mono KB2.out.size))
 have lg2 : w.heap.size < w2.heap.size := World.block_lt_of_cell? _ _ c0
 have HC0 := Lib.hid (And.intro c0 (And.intro c1 (And.intro c2 (And.intro c3 (And.intro c4 (And.intro c5 c6))))))
 have K60 := Lib.hid K6
 clear HS c0 c1 c2 c3 c4 c5 c6 c0' c1' c2' c3' c4' c5' c6' K6 RD SZ
 go_wp2_with fail
 go_loopw [4] (fun iv wr => ∃ (j : Nat), iv = .int .i64 (j : Int) /\ j <= m /\ Hid (Below w2.heap.size w2 wr) /\ Hid ((if (vs.drop j).any (badV K B F R O) = true then (1 : Int) else 0) = RES)) (fun iv _ => m - (intOf iv).toNat)
 case atStart => exact ⟨0, rfl, Nat.zero_le _, K60, HRES⟩
 case round =>
  obtain ⟨j, rfl, hj, hB, hE⟩ := hrel
  have jj : (0 : Int) <= j := by omega
  have c0 := Rg.keep hB.out lg2 HC0.out.1
  have c1 := Rg.keep hB.out lg2 HC0.out.2.1
  have c2 := Rg.keep hB.out lg2 HC0.out.2.2.1
  have c3 := Rg.keep hB.out lg2 HC0.out.2.2.2.1
  have c4 := Rg.keep hB.out lg2 HC0.out.2.2.2.2.1
  have c5 := Rg.keep hB.out lg2 HC0.out.2.2.2.2.2.1
  have c6 := Rg.keep hB.out lg2 HC0.out.2.2.2.2.2.2
  have KW := Lib.hid (KB2.out.trans (hB.out.mono KB2.out.size))
  by_cases hlt : j < m
  ·have hjl : j < vs.length := by rw [HM.out]; exact hlt
   have j2 : (j : Int) < m := by omega
   obtain ⟨b, o, rfl, v0, v1⟩ := (SlV.below RB.out KW.out) j hjl
   have hdr : vs.drop j = vs.getD j (0, 0) :: vs.drop (j + 1) := drop_step hjl
   have h := hE.out
   rw [hdr, List.any_cons] at h
   obtain ⟨xy, hx⟩ : ∃ xy, vs.getD j (0, 0) = xy := ⟨_, rfl⟩
   rw [hx] at v0 v1 h
   obtain ⟨x, y⟩ := xy
   dsimp only at v0 v1
   have BV0 := BVV.out x y
   obtain ⟨g, hg⟩ : ∃ g, vv K B F R O x y = g := ⟨_, rfl⟩
   rw [show badV K B F R O (x, y) = !vv K B F R O x y from rfl, hg] at h
   rw [hg] at BV0
   have BV := Lib.hid BV0
   clear hx hdr hE hjl hg BV0
   have HS : Hid (∀ u u' : World, (u.cell? ⟨w.heap.size, 0, none⟩ = some (.int .i64 K) /\ u.cell? ⟨w.heap.size, 1, none⟩ = some (.int .i64 B) /\ u.cell? ⟨w.heap.size, 2, none⟩ = some (.int .i64 F) /\ u.cell? ⟨w.heap.size, 3, none⟩ = some (.int .i64 R) /\ u.cell? ⟨w.heap.size, 4, none⟩ = some (.int .i64 O) /\ u.cell? ⟨w.heap.size, 5, none⟩ = some (.slice p zs.length c) /\ u.cell? ⟨w.heap.size, 6, none⟩ = some (.slice (some ⟨b, o, none⟩) m d) /\ u.cell? ⟨b, o + j * 2, none⟩ = some (.int .i64 x) /\ u.cell? ⟨b, o + j * 2 + 1, none⟩ = some (.int .i64 y) /\ Below wr.heap.size wr u) -> Below u.heap.size u u' -> (u'.cell? ⟨w.heap.size, 0, none⟩ = some (.int .i64 K) /\ u'.cell? ⟨w.heap.size, 1, none⟩ = some (.int .i64 B) /\ u'.cell? ⟨w.heap.size, 2, none⟩ = some (.int .i64 F) /\ u'.cell? ⟨w.heap.size, 3, none⟩ = some (.int .i64 R) /\ u'.cell? ⟨w.heap.size, 4, none⟩ = some (.int .i64 O) /\ u'.cell? ⟨w.heap.size, 5, none⟩ = some (.slice p zs.length c) /\ u'.cell? ⟨w.heap.size, 6, none⟩ = some (.slice (some ⟨b, o, none⟩) m d) /\ u'.cell? ⟨b, o + j * 2, none⟩ = some (.int .i64 x) /\ u'.cell? ⟨b, o + j * 2 + 1, none⟩ = some (.int .i64 y) /\ Below wr.heap.size wr u')) := Lib.hid (fun u u' h hb => ⟨Rg.keep hb (World.block_lt_of_cell? _ _ h.1) h.1, Rg.keep hb (World.block_lt_of_cell? _ _ h.2.1) h.2.1, Rg.keep hb (World.block_lt_of_cell? _ _ h.2.2.1) h.2.2.1, Rg.keep hb (World.block_lt_of_cell? _ _ h.2.2.2.1) h.2.2.2.1, Rg.keep hb (World.block_lt_of_cell? _ _ h.2.2.2.2.1) h.2.2.2.2.1, Rg.keep hb (World.block_lt_of_cell? _ _ h.2.2.2.2.2.1) h.2.2.2.2.2.1, Rg.keep hb (World.block_lt_of_cell? _ _ h.2.2.2.2.2.2.1) h.2.2.2.2.2.2.1, Rg.keep hb (World.block_lt_of_cell? _ _ h.2.2.2.2.2.2.2.1) h.2.2.2.2.2.2.2.1, Rg.keep hb (World.block_lt_of_cell? _ _ h.2.2.2.2.2.2.2.2.1) h.2.2.2.2.2.2.2.2.1, h.2.2.2.2.2.2.2.2.2.trans (hb.mono h.2.2.2.2.2.2.2.2.2.size)⟩)
   cases g with
   | false =>
    have HR : Hid (RES = 1) := Lib.hid (by rw [Bool.not_false, Bool.true_or, if_pos rfl] at h; exact h.symm)
    clear h
    go_wp2_with fail
    refine Rk.begin (S := fun wS => wS.cell? ⟨w.heap.size, 0, none⟩ = some (.int .i64 K) /\ wS.cell? ⟨w.heap.size, 1, none⟩ = some (.int .i64 B) /\ wS.cell? ⟨w.heap.size, 2, none⟩ = some (.int .i64 F) /\ wS.cell? ⟨w.heap.size, 3, none⟩ = some (.int .i64 R) /\ wS.cell? ⟨w.heap.size, 4, none⟩ = some (.int .i64 O) /\ wS.cell? ⟨w.heap.size, 5, none⟩ = some (.slice p zs.length c) /\ wS.cell? ⟨w.heap.size, 6, none⟩ = some (.slice (some ⟨b, o, none⟩) m d) /\ wS.cell? ⟨b, o + j * 2, none⟩ = some (.int .i64 x) /\ wS.cell? ⟨b, o + j * 2 + 1, none⟩ = some (.int .i64 y) /\ Below wr.heap.size wr wS) 8 (by kernel_rfl) ⟨c0, c1, c2, c3, c4, c5, c6, v0, v1, Below.drew (Below.refl _ _)⟩ (fun hHeld => ?_)
    refine SqR.p 0 ?_
    refine SqR.l [7, 8] 1 ?_
    refine SqR.p 2 ?_
    refine SqR.l [5, 6, 7, 8] 3 ?_
    refine SqR.p 4 ?_
    refine SqR.p 5 ?_
    refine SqR.l [7, 8] 6 ?_
    refine Rk.one (i := 7) (by kernel_rfl) rfl (fun KK hK => ?_)
    rw [if_pos (by kernel_rfl)]
    go_simp
    ((with_reducible refine (BV.out _).mono ?_); rintro e u ⟨rfl, hb⟩)
    first | (refine hK.out _ _ (fun _ => HS.out _ _ hHeld hb) (fun hHeld => ?_)) | (refine hK.out _ _ (HS.out _ _ hHeld hb) (fun hHeld => ?_)) | (go_wp2_with fail; refine hK.out _ _ (HS.out _ _ hHeld hb) (fun hHeld => ?_))
    clear hK KK
    refine Rk.tail [8] [_] (by kernel_rfl) (by kernel_rfl) rfl (by decide) ?_

    have K9 := KW.out.trans ((hHeld.2.2.2.2.2.2.2.2.2).mono KW.out.size)
    clear hHeld HS
    go_wp2_with fail
    go_ret
    exact ⟨by rw [HR.out]; rfl, K9⟩
   | true =>
    have HR : Hid ((if (vs.drop (j + 1)).any (badV K B F R O) = true then (1 : Int) else 0) = RES) := Lib.hid (by rw [Bool.not_true, Bool.false_or] at h; exact h)
    clear h
    go_wp2_with fail
    refine Rk.begin (S := fun wS => wS.cell? ⟨w.heap.size, 0, none⟩ = some (.int .i64 K) /\ wS.cell? ⟨w.heap.size, 1, none⟩ = some (.int .i64 B) /\ wS.cell? ⟨w.heap.size, 2, none⟩ = some (.int .i64 F) /\ wS.cell? ⟨w.heap.size, 3, none⟩ = some (.int .i64 R) /\ wS.cell? ⟨w.heap.size, 4, none⟩ = some (.int .i64 O) /\ wS.cell? ⟨w.heap.size, 5, none⟩ = some (.slice p zs.length c) /\ wS.cell? ⟨w.heap.size, 6, none⟩ = some (.slice (some ⟨b, o, none⟩) m d) /\ wS.cell? ⟨b, o + j * 2, none⟩ = some (.int .i64 x) /\ wS.cell? ⟨b, o + j * 2 + 1, none⟩ = some (.int .i64 y) /\ Below wr.heap.size wr wS) 8 (by kernel_rfl) ⟨c0, c1, c2, c3, c4, c5, c6, v0, v1, Below.drew (Below.refl _ _)⟩ (fun hHeld => ?_)
    refine SqR.p 0 ?_
    refine SqR.l [7, 8] 1 ?_
    refine SqR.p 2 ?_
    refine SqR.l [5, 6, 7, 8] 3 ?_
    refine SqR.p 4 ?_
    refine SqR.p 5 ?_
    refine SqR.l [7, 8] 6 ?_
    refine Rk.one (i := 7) (by kernel_rfl) rfl (fun KK hK => ?_)
    rw [if_pos (by kernel_rfl)]
    go_simp
    ((with_reducible refine (BV.out _).mono ?_); rintro e u ⟨rfl, hb⟩)
    first | (refine hK.out _ _ (fun _ => HS.out _ _ hHeld hb) (fun hHeld => ?_)) | (refine hK.out _ _ (HS.out _ _ hHeld hb) (fun hHeld => ?_)) | (go_wp2_with fail; refine hK.out _ _ (HS.out _ _ hHeld hb) (fun hHeld => ?_))
    clear hK KK
    refine Rk.tail [8] [_] (by kernel_rfl) (by kernel_rfl) rfl (by decide) ?_

    have K9 := Lib.hid (hB.out.trans ((hHeld.2.2.2.2.2.2.2.2.2).mono hB.out.size))
    clear hHeld HS
    go_wp2_with fail
    go_roundw
    case rel => exact ⟨j + 1, by go_num, by omega, K9, HR⟩
    case measure => simp [intOf]; omega
  ·obtain rfl : j = m := by omega
   have m1 : ¬ (j : Int) < j := by omega
   have HR : Hid (RES = 0) := Lib.hid (by
    have h := hE.out
    rw [List.drop_of_length_le (by rw [HM.out]; exact Nat.le_refl _)] at h
    exact h.symm)
   go_wp2_with fail
   go_ret
   exact ⟨by rw [HR.out]; rfl, KW.out⟩

/-- Validate of the reference. -/
theorem rval (K B F R O : Int) (p : Option Addr) (zs : List Int) (c : Nat) (q : Option Addr) (vs : List (Int × Int)) (d : Nat) (w : World) (hn : zs.length <= maxLen) (hm : vs.length <= maxLen) (RA : Hid (SlI w p zs)) (RB : Hid (SlV w q vs)) :
  Calls Tryz.prog 21 #[Tn K B F R O p zs.length c q vs.length d] w fun e w' => e = .returned (.int .i64 (tE K B F R O zs vs)) /\ Below w.heap.size w w' := by
 unfold tE
 cases ht : ty K B F R O
 ·rw [if_neg (by simp)]
  exact rv_a K B F R O p zs c q vs d w hn hm RA RB ht
 ·rw [if_pos rfl]
  cases hv : (vE zs != 0)
  ·have hv0 : vE zs = 0 := by simpa using hv
   rw [if_neg (by simp)]
   cases hl : ((vs.length : Int) != sp zs)
   ·rw [Bool.false_or]
    exact rv_d K B F R O p zs c q vs d w hn hm RA RB ht hv0 hl
   ·rw [Bool.true_or]
    exact rv_c K B F R O p zs c q vs d w hn hm RA RB ht hv0 hl
  ·rw [if_pos rfl]
   exact rv_b K B F R O p zs c q vs d w hn hm RA RB ht hv
end Go.Proofs.YteaaikmejacpaaaGreatDoor.Te


namespace Go.Proofs.YteaaikmejacpaaaGreatDoor.Te
open Go.ChangeShapes Go.WideShapes Go.ChangeAt Go.RowKit
open Fx Va Sh
set_option maxRecDepth 8000
set_option linter.unusedVariables false
set_option linter.unusedSimpArgs false

theorem own_ne {u : World} {base : Nat} {E : TypeId} {sz n : Nat} {v : Value} {xs : List Value} {g : Nat} (h : u.ownsRow base E sz v n xs) (hg : g < base) : v.ownBlock = none \/ v.ownBlock ≠ some g := by
 cases hb : v.ownBlock with
 | none => exact .inl rfl
 | some q => exact .inr (fun e => by cases e; have := (h.lt _ hb).1; omega)
theorem grown_set {u : World} {a : Addr} {v : Value} : u.grownBy (u.setCell a v) (some a.block) := ⟨rfl, rfl, rfl, by rw [World.size_setCell]; exact Nat.le_refl _, fun b hb hne => Below.heap_setCell _ _ _ _ (fun e => hne (by rw [e]))⟩
theorem own_set {u : World} {base : Nat} {E : TypeId} {sz n : Nat} {v : Value} {xs : List Value} {a : Addr} {y : Value} (h : u.ownsRow base E sz v n xs) (ha : a.block < base) : (u.setCell a y).ownsRow base E sz v n xs := h.kept grown_set (own_ne h ha)
theorem own_slice {u : World} {base : Nat} {E : TypeId} {sz n : Nat} {v : Value} {xs : List Value} (h : u.ownsRow base E sz v n xs) : ∃ q c, v = .slice q n c := by
 rcases h.2 with ⟨rfl, hn⟩ | ⟨g, cap, cur, rfl, _⟩
 ·exact ⟨none, 0, by rw [hn]⟩
 ·exact ⟨_, _, rfl⟩
theorem own_belowE {w w' : World} {B : Nat} {e : TypeId} {size : Nat} {v : Value} {n : Nat} {xs : List Value} (h : w.ownsRow B e size v n xs) (hb : Below w.heap.size w w') : w'.ownsRow B e size v n xs := by
 obtain ⟨hl, h0 | ⟨g, cap, cur, hv, hb', hh, r⟩⟩ := h
 ·exact ⟨hl, .inl h0⟩
 ·have hg : g < w.heap.size := by
   rcases Nat.lt_or_ge g w.heap.size with h1 | h1
   ·exact h1
   ·rw [Array.getElem?_eq_none h1] at hh
    cases hh
  exact ⟨hl, .inr ⟨g, cap, cur, hv, hb', by rw [hb.block g hg]; exact hh, r⟩⟩
theorem own_base {w : World} {B B' : Nat} {e : TypeId} {size : Nat} {v : Value} {n : Nat} {xs : List Value} (h : w.ownsRow B e size v n xs) (hb : B' <= B) : w.ownsRow B' e size v n xs := by
 obtain ⟨hl, h0 | ⟨g, cap, cur, hv, hb', r⟩⟩ := h
 ·exact ⟨hl, .inl h0⟩
 ·exact ⟨hl, .inr ⟨g, cap, cur, hv, by omega, r⟩⟩
/-- The cells of a row of elements. -/
def flV (vs : List (Int × Int)) : List Value := vs.flatMap fun v => [.int .i64 v.1, .int .i64 v.2]
theorem flV_len : ∀ vs : List (Int × Int), (flV vs).length = vs.length * 2
 | [] => rfl
 | v :: r => by
  show ([Value.int .i64 v.1, .int .i64 v.2] ++ flV r).length = _
  rw [List.length_append, flV_len r]; simp; omega
theorem flV_get : ∀ (vs : List (Int × Int)) (i : Nat), i < vs.length -> (flV vs)[i * 2]? = some (.int .i64 (vs.getD i (0, 0)).1) /\ (flV vs)[i * 2 + 1]? = some (.int .i64 (vs.getD i (0, 0)).2)
 | [], i, h => absurd h (by simp)
 | v :: r, 0, _ => ⟨rfl, rfl⟩
 | v :: r, i + 1, h => by
  have ih := flV_get r i (by simpa using h)
  have e : flV (v :: r) = .int .i64 v.1 :: .int .i64 v.2 :: flV r := rfl
  rw [e, show (i + 1) * 2 = i * 2 + 2 by omega]
  simp only [List.getElem?_cons_succ, List.getD_cons_succ]
  exact ih
theorem flV_in {vs : List (Int × Int)} {x : Value} (h : x ∈ flV vs) : ∃ z, x = .int .i64 z := by
 unfold flV at h
 obtain ⟨v, _, hx⟩ := List.mem_flatMap.1 h
 simp only [List.mem_cons, List.not_mem_nil, or_false] at hx
 rcases hx with rfl | rfl
 ·exact ⟨_, rfl⟩
 ·exact ⟨_, rfl⟩
/-- A row of elements reads as the list. -/
theorem SlV_of {w : World} {B n : Nat} {q : Option Addr} {c : Nat} {vs : List (Int × Int)} (h : w.ownsRow B 29 2 (.slice q n c) n (flV vs)) (hn : vs.length = n) : SlV w q vs := fun i hi => by
 rcases h.2 with ⟨hv, h0⟩ | ⟨g, cap, cur, hv, _⟩
 ·omega
 ·cases hv
  obtain ⟨v0, v1⟩ := flV_get vs i hi
  exact ⟨g, 0, rfl, by simpa using (h.cellAt (i * 2) (by omega)).trans v0, by simpa using (h.cellAt (i * 2 + 1) (by omega)).trans v1⟩
theorem SlI_of {w : World} {B n : Nat} {q : Option Addr} {c : Nat} {zs : List Int} (h : w.ownsRow B 3 1 (.slice q n c) n (zs.map (Value.int .i64))) (hn : zs.length = n) : SlI w q zs := fun i hi => by
 rcases h.2 with ⟨hv, h0⟩ | ⟨g, cap, cur, hv, _⟩
 ·omega
 ·cases hv
  refine ⟨g, 0, rfl, ?_⟩
  have h1 := h.cellAt i (by omega)
  rw [List.getElem?_map, List.getElem?_eq_getElem hi] at h1
  rw [getD_at hi, Nat.zero_add]
  exact h1

theorem infoV : (Tryz.prog.info? 29).map (fun i => (i.zero, i.size, i.bytes)) = some (some (.agg #[.int .i64 0, .int .i64 0]), 2, 16) := by kernel_rfl
def OV (vs : List (Int × Int)) (w : World) (e : Ending) (w' : World) : Prop := ∃ v, e = .returned v /\ Below w.heap.size w w' /\ w'.ownsRow w.heap.size 29 2 v vs.length (flV vs)
set_option maxHeartbeats 4000000 in
/-- slices.Clone of elements that are not none. -/
theorem cloneV (b o : Nat) (vs : List (Int × Int)) (c : Nat) (w : World) (hn : vs.length <= maxLen) (hby : vs.length * 16 <= 140737488355328) (RA : Hid (SlV w (some ⟨b, o, none⟩) vs)) :
  Calls Tryz.prog 80 #[.slice (some ⟨b, o, none⟩) vs.length c] w (OV vs w) := by
 obtain ⟨i0, hi, hz0, hz1, hz2⟩ := info_parts infoV
 have RN := Lib.hid (fun o' : Obj => SlV.below (w' := w.alloc o') RA.out ((Below.refl _ _).alloc (Nat.le_refl _) _))
 have HN := Lib.hid hn
 have HB := Lib.hid hby
 clear hn hby
 have EN : (binOp .eql 25 (.slice (some ⟨b, o, none⟩) vs.length c) (.slice none 0 0)).run Tryz.prog w = .ok (.bool false) w := by kernel_rfl
 go_enter Tryz.func80, Tryz.ntmps80
 go_wp2_with (at_builtin; refine wpList_append_own _ rfl _ _ 25 rfl w.heap.size 29 i0 (.agg #[.int .i64 0, .int .i64 0]) 2 16 Tryz.underlying25 hi hz0 hz1 hz2 rfl (by decide) _ _ _ rfl (World.ownsRow_lit w #[] 0 (Nat.le_refl _) (by decide) rfl) ⟨b, o, none⟩ vs.length c (flV vs) rfl ?_ ?_ ?_ ?_ ?_ ?_ ?_)
 ·rw [flV_len]
 ·intro j u hj
  have hj2 : j < vs.length * 2 := by
   rw [<- flV_len]
   by_cases h : j < (flV vs).length
   ·exact h
   ·rw [List.getElem?_eq_none (by omega)] at hj; cases hj
  obtain ⟨k, hk⟩ : ∃ k, j = k * 2 \/ j = k * 2 + 1 := ⟨j / 2, by omega⟩
  have hk2 : k < vs.length := by omega
  obtain ⟨v0, v1⟩ := flV_get vs k hk2
  obtain ⟨b', o', e, h0, h1⟩ := RN.out (.cells #[] 29 (0, 0)) k hk2
  cases e
  rcases hk with rfl | rfl
  ·rw [v0] at hj; cases hj; rw [add_at]; exact h0
  ·rw [v1] at hj; cases hj; rw [add_at]; exact h1
 ·intro u hu
  obtain ⟨z, rfl⟩ := flV_in hu
  rfl
 ·rw [Nat.zero_add]; exact HN.out
 ·rw [Nat.zero_add]; exact HB.out
 ·simp
 intro v' w1 hown' hgrow _
 have hO2 : Hid (w1.ownsRow w.heap.size 29 2 v' vs.length (flV vs)) := Lib.hid (by first | exact hown' | (have h := hown'; rw [Nat.zero_add] at h; exact h))
 have hB2 : Below w.heap.size w w1 := ((Below.refl _ _).alloc (Nat.le_refl _) _).grown hgrow (by simp) (fun j hj => by cases hj; exact Nat.le_refl _)
 clear hown' hgrow hi hz0 hz1 hz2
 go_wp2
 go_ret
 exact ⟨_, rfl, hB2, hO2.out⟩
end Go.Proofs.YteaaikmejacpaaaGreatDoor.Te
