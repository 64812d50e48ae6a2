/- Tensors: write, with dimensions. -/
import Derived.Test.YteaaikmejacpaaaGreatDoorS21

namespace Go.Proofs.YteaaikmejacpaaaGreatDoor.Te
open Go.ChangeShapes Go.WideShapes Go.ChangeAt Go.RowKit
open Fx Va Sh
set_option maxRecDepth 8000
set_option linter.unusedVariables false
set_option linter.unusedSimpArgs false

theorem SlV_cut {w : World} {b o : Nat} {vs : List (Int × Int)} (h : SlV w (some ⟨b, o, none⟩) vs) (k n : Nat) : SlV w (some ⟨b, o + k * 2, none⟩) ((vs.drop k).take n) := fun i hi => by
 rw [List.length_take, List.length_drop] at hi
 obtain ⟨b1, o1, e, c0, c1⟩ := h (k + i) (by omega)
 cases e
 have e2 : ((vs.drop k).take n).getD i (0, 0) = vs.getD (k + i) (0, 0) := by
  rw [List.getD_eq_getElem?_getD, List.getD_eq_getElem?_getD, List.getElem?_take_of_lt (by omega), List.getElem?_drop]
 rw [e2]
 exact ⟨b, o + k * 2, rfl, by rw [show o + k * 2 + i * 2 = o + (k + i) * 2 by omega]; exact c0, by rw [show o + k * 2 + i * 2 + 1 = o + (k + i) * 2 + 1 by omega]; exact c1⟩

theorem cut_nums {i s y m : Nat} (hi : i < y) (hm : m = y * s) (hms : m <= 4096) (hs : 1 <= s) : ∃ a1 a2 i1 : Nat, i * s = a1 /\ (i + 1) * s = a2 /\ i + 1 = i1 /\ IntKind.i64.wrap ((i : Int) * s) = a1 /\ IntKind.i64.wrap ((i : Int) + 1) = i1 /\ IntKind.i64.wrap ((i1 : Int) * s) = a2 /\ a1 <= a2 /\ a2 <= m /\ a2 = a1 + s /\ a1 + s <= m := by
 have h1 : (i + 1) * s <= m := by rw [hm]; exact Nat.mul_le_mul_right s hi
 have h2 : (i + 1) * s = i * s + s := by rw [Nat.add_mul, Nat.one_mul]
 have h3 : i + 1 <= m := Nat.le_trans (Nat.le_mul_of_pos_right _ (by omega)) h1
 refine ⟨i * s, (i + 1) * s, i + 1, rfl, rfl, rfl, ?_, ?_, ?_, by omega, h1, h2, by omega⟩
 ·rw [show (i : Int) * s = ((i * s : Nat) : Int) by push_cast; rfl]; exact wnI (by omega)
 ·rw [show (i : Int) + 1 = ((i + 1 : Nat) : Int) by push_cast; rfl]; exact wnI (by omega)
 ·rw [show ((i + 1 : Nat) : Int) * s = (((i + 1) * s : Nat) : Int) by push_cast; rfl]; exact wnI (by omega)
theorem wtj_le {f : Nat -> List UInt8} {n : Nat} : ∀ i, i <= n -> (wtj f i).length <= (wtj f n).length := by
 induction n with
 | zero =>
  intro i hi
  obtain rfl : i = 0 := by omega
  exact Nat.le_refl _
 | succ n ih =>
  intro i hi
  by_cases h : i = n + 1
  ·subst h; exact Nat.le_refl _
  ·have := ih i (by omega)
   have e : (wtj f (n + 1)).length = (wtj f n).length + ((if n = 0 then ([] : List UInt8) else [44, 32]) ++ f n).length := by
    show (wtj f n ++ _).length = _
    rw [List.length_append]
   omega

set_option maxRecDepth 100000 in
set_option maxHeartbeats 2000000 in
theorem wr_cons (K B F R O : Int) (b0 : -9223372036854775808 <= B) (b1 : B <= 9223372036854775807) (Bs bb : Nat) (zs : List Int) (vs : List (Int × Int)) (p : Option Addr) (c : Nat) (q : Option Addr) (d : Nat) (L : List UInt8) (w : World)
  (hw : Bs <= w.heap.size) (hIB : Lib.IsBuilder 98 5 Bs bb (Lib.byteCells L) w) (HL : ∀ u, Below Bs w u -> Tx.LA u) (PA : ∀ u, Below Bs w u -> SlI u p zs) (PB : ∀ u, Below Bs w u -> SlV u q vs) (z : Int) (zt : List Int) (hzs : zs = z :: zt) (hv : vE zs = 0) (hl : (vs.length : Int) = sp zs) (hc : zs.length <= c) (hc2 : c <= 9223372036854775807) (hd : vs.length <= d) (hd2 : d <= 9223372036854775807) (hlen : L.length + (wtx K B F R O zs vs).length <= 140737488355328) (IH : Hid (∀ (vs' : List (Int × Int)) (p' : Option Addr) (c' : Nat) (q' : Option Addr) (d' : Nat) (L' : List UInt8) (u : World), Bs <= u.heap.size -> Lib.IsBuilder 98 5 Bs bb (Lib.byteCells L') u -> (∀ u', Below Bs u u' -> Tx.LA u') -> (∀ u', Below Bs u u' -> SlI u' p' zt) -> (∀ u', Below Bs u u' -> SlV u' q' vs') -> (vs'.length : Int) = sp zt -> zt.length <= c' -> c' <= 9223372036854775807 -> vs'.length <= d' -> d' <= 9223372036854775807 -> L'.length + (wtx K B F R O zt vs').length <= 140737488355328 -> Calls Tryz.prog 76 #[.pointer (some ⟨bb, 0, none⟩), Tn K B F R O p' zt.length c' q' vs'.length d'] u fun e w' => e = .returned (.tuple #[]) /\ Lib.IsBuilder 98 5 Bs bb (Lib.byteCells (L' ++ wtx K B F R O zt vs')) w' /\ Below Bs u w' /\ Lib.OthersKept 5 (some bb) u w')) :
  Calls Tryz.prog 76 #[.pointer (some ⟨bb, 0, none⟩), Tn K B F R O p zs.length c q vs.length d] w fun e w' => e = .returned (.tuple #[]) /\ Lib.IsBuilder 98 5 Bs bb (Lib.byteCells (L ++ wtx K B F R O zs vs)) w' /\ Below Bs w w' /\ Lib.OthersKept 5 (some bb) w w' := by
 obtain ⟨h6, hlow, -, hsp, hdd⟩ := valid_of hv
 have hz0 : zs.getD 0 0 = z := by rw [hzs]; rfl
 have hz0l : 0 < zs.length := by rw [hzs]; simp
 have hzp := pos_of hlow hz0l
 rw [hz0] at hzp
 have hs1 := (hdd 1).1
 rw [hzs, List.drop_succ_cons, List.drop_zero] at hs1
 have hspz : sp zs = z * sp zt := by rw [hzs]; simp [sp, Int.mul_comm]
 obtain ⟨y, hy⟩ : ∃ y : Nat, z = y := ⟨z.toNat, by omega⟩
 obtain ⟨s, hs⟩ : ∃ s : Nat, sp zt = s := ⟨(sp zt).toNat, by omega⟩
 obtain ⟨n, hn⟩ : ∃ n, zs.length = n := ⟨_, rfl⟩
 have hnt : zt.length = n - 1 := by rw [<- hn, hzs]; simp
 obtain ⟨pb, po, hpp, -⟩ := PA w (Below.refl _ _) 0 hz0l
 subst hpp
 obtain ⟨vb, vo, hqq, -⟩ := PB w (Below.refl _ _) 0 (by have := (hdd 0).1; rw [List.drop_zero] at this; omega)
 subst hqq
 have hwx : wtx K B F R O zs vs = 91 :: (wtj (fun i => wtx K B F R O zt ((vs.drop (i * s)).take s)) y ++ [93]) := by rw [hzs, wtx_cons, hs, hy]; rfl
 rw [hwx] at hlen ⊢
 obtain ⟨f, hf⟩ : ∃ f, (fun i => wtx K B F R O zt ((vs.drop (i * s)).take s)) = f := ⟨_, rfl⟩
 rw [hf] at hlen ⊢
 have HF := Lib.hid fun i => congrFun hf.symm i
 have HZS : Hid (zs.drop 1 = zt) := Lib.hid (by rw [hzs]; rfl)
 have HLA := Lib.hid HL
 have HIB := Lib.hid hIB
 have hnb : some w.heap.size ≠ some bb := by intro e; injection e with e; rcases hIB with h | h <;> (have := h.lt; omega)
 have hn5 : ∀ c9 fz, (Obj.cells #[.int .i64 K, .int .i64 B, .int .i64 F, .int .i64 R, .int .i64 O, .slice (some ⟨pb, po, none⟩) zs.length c, .slice (some ⟨vb, vo, none⟩) vs.length d] 27 (0, 0)) ≠ .cells c9 5 fz := by intro c9 fz e; cases e
 have WS := Lib.hid fun (l : List UInt8) (sx : ByteArray) u (h : Lib.IsBuilder 98 5 Bs bb (Lib.byteCells l) u) (hs : Bs <= u.heap.size) (hl : l.length + sx.size <= 140737488355328) => Ln.writeString Bs bb (Lib.byteCells l) sx u h (by rw [Lib.byteCells_length]; exact hl) hs
 have hlj : ∀ i, i <= y -> L.length + 1 + (wtj f i).length + 1 <= 140737488355328 := fun i hi => by
  have := wtj_le (f := f) (n := y) i hi
  rw [List.length_cons, List.length_append] at hlen
  simp only [List.length_cons, List.length_nil] at hlen
  omega
 have HLJ := Lib.hid hlj
 have hl1 : L.length + (⟨#[91]⟩ : ByteArray).size <= 140737488355328 := by have := hlj 0 (Nat.zero_le _); show L.length + 1 <= _; simp [wtj] at this; omega
 have hw1 : ∀ o, Bs <= (w.alloc o).heap.size := fun o => by simp; omega
 have hmI : (vs.length : Int) = y * s := by rw [hl, hspz, hy, hs]
 have hm4 : vs.length = y * s := by exact_mod_cast hmI
 have hy1 : 1 <= y := by omega
 have hs2 : 1 <= s := by omega
 have hms : vs.length <= 4096 := by omega
 obtain ⟨m, hmm⟩ : ∃ m, vs.length = m := ⟨_, rfl⟩
 have HM := Lib.hid hmm
 have TBX : Hid ((w.alloc (Obj.cells #[Value.int .i64 K, Value.int .i64 B, Value.int .i64 F, Value.int .i64 R, Value.int .i64 O, Value.slice (some ⟨pb, po, none⟩) zs.length c, Value.slice (some ⟨vb, vo, none⟩) vs.length d] 27)).heap[w.heap.size]? = some (.cells #[.int .i64 K, .int .i64 B, .int .i64 F, .int .i64 R, .int .i64 O, .slice (some ⟨pb, po, none⟩) zs.length c, .slice (some ⟨vb, vo, none⟩) vs.length d] 27 (0, 0))) := Lib.hid (heap_alloc_new _ _)
 rw [hmm] at hl hm4 hms hd TBX hn5 ⊢
 rw [hn] at TBX hn5 hc h6 ⊢
 have hz9 : zs.getD 0 0 = (y : Int) := by rw [hz0, hy]
 have e1 : wrap64 ((m : Int) / (y : Int)) = (s : Int) := by
  have : (m : Int) / (y : Int) = (s : Int) := by rw [hm4]; push_cast; exact Int.mul_ediv_cancel_left _ (by omega)
  rw [this]; exact w64 (by have := Nat.le_mul_of_pos_left s hy1; omega) (by have := Nat.le_mul_of_pos_left s hy1; omega)
 have hy4 : y <= 4096 := Nat.le_trans (by rw [hm4]; exact Nat.le_mul_of_pos_right _ hs2) hms
 have HM4 := Lib.hid hm4
 have e0 : ¬ (y : Int) = 0 := by omega
 have g0 : (0 : Int) < n := by omega
 have g0n : 0 < n := by omega
 have gn0 : ((n : Int) == 0) = false := by simp; omega
 have gn1 : (n == 0) = false := by simp; omega
 have c4 : ((⟨pb, po, none⟩ : Addr)) = ⟨pb, po, none⟩ := rfl
 clear hm4 hf hwx hspz hmI hsp hdd hlow hv hzs hlen hl hz0 hIB HL c4 hs1 hzp
 unfold Tn at *
 subst hy
 replace hz0 := hz9
 clear hz9
 go_enter Tryz.func76, Tryz.ntmps76
 go_upto_region 4 with (go_at_call 105; (with_reducible refine (WS.out (L) ⟨#[91]⟩ _ (Ln.isB_alloc HIB.out _) (hw1 _) hl1).mono ?_); rintro e u3 ⟨rfl, h3, hb3, ho3⟩; rw [Ln.cells_app] at h3; have TB3 := ho3 _ _ TBX.out hnb hn5; have K3 := Lib.hid ((Below.refl _ _).alloc hw _ |>.trans hb3); have O3 := Lib.hid (((Lib.OthersKept.refl 5 (some bb) w).alloc (Obj.cells #[Value.int .i64 K, Value.int .i64 B, Value.int .i64 F, Value.int .i64 R, Value.int .i64 O, Value.slice (some ⟨pb, po, none⟩) n c, Value.slice (some ⟨vb, vo, none⟩) m d] 27)).trans ho3); have HI3 := Lib.hid (show Lib.IsBuilder 98 5 Bs bb (Lib.byteCells (L ++ [91])) u3 from Or.inr h3); have hc3 := box_cells TB3; obtain ⟨c0, c1, c2, c3, c4, c5, c6⟩ := hc3; have HT3 := Lib.hid TB3; have hs3 := K3.out.size; obtain ⟨b9, o9, e9, z9⟩ := PA u3 K3.out 0 hz0l; cases e9; rw [Nat.add_zero, hz0] at z9; clear TB3 h3 hb3 ho3)
 go_quiet (fail)
 try rw [e1]
 obtain ⟨wq, hwq⟩ : ∃ wq : World, wq = u3.drewN nq := ⟨_, rfl⟩
 rw [<- hwq]
 have HQ3 : Hid (Lib.IsBuilder 98 5 Bs bb (Lib.byteCells (L ++ [91])) wq) := by rw [hwq]; exact HI3
 have TQ3 : Hid (wq.heap[w.heap.size]? = some (.cells #[.int .i64 K, .int .i64 B, .int .i64 F, .int .i64 R, .int .i64 O, .slice (some ⟨pb, po, none⟩) n c, .slice (some ⟨vb, vo, none⟩) m d] 27 (0, 0))) := by rw [hwq]; exact HT3
 have KQ3 : Hid (Below Bs w wq) := by rw [hwq]; exact Lib.hid (below_drewN K3.out _)
 have OQ3 : Hid (Lib.OthersKept 5 (some bb) w wq) := by rw [hwq]; exact O3
 clear hwq HI3 HT3 K3 O3 c0 c1 c2 c3 c4 c5 c6 z9 e1 hs3
 obtain ⟨c0, c1, c2, c3, c4, c5, c6⟩ := box_cells TQ3.out
 obtain ⟨b9, o9, e9, z9⟩ := PA wq KQ3.out 0 hz0l
 cases e9
 rw [Nat.add_zero, hz0] at z9
 go_wp2_with fail
 go_loopw [33] (fun iv wr => ∃ i : Nat, iv = .int .i64 (i : Int) /\ i <= y /\ Hid (Lib.IsBuilder 98 5 Bs bb (Lib.byteCells (L ++ 91 :: wtj f i)) wr) /\ Hid (wr.heap[w.heap.size]? = some (.cells #[.int .i64 K, .int .i64 B, .int .i64 F, .int .i64 R, .int .i64 O, .slice (some ⟨pb, po, none⟩) n c, .slice (some ⟨vb, vo, none⟩) m d] 27 (0, 0))) /\ Hid (Below Bs w wr) /\ Hid (Lib.OthersKept 5 (some bb) w wr)) (fun iv _ => y - (intOf iv).toNat)
 case atStart => exact ⟨0, rfl, Nat.zero_le _, HQ3, TQ3, KQ3, OQ3⟩
 case round =>
  obtain ⟨i, rfl, hi, HI, HT, HK, HO⟩ := hrel
  clear c0 c1 c2 c3 c4 c5 c6 z9 HQ3 TQ3 KQ3 OQ3
  by_cases hiy : i < y
  ·have hi2 : (i : Int) < y := by omega
   have hi0 : (0 : Int) <= i := by omega
   obtain ⟨a1, a2, i1, ha1, ha2, hi1, e2, e3, e4, k1, k2, k3, k4⟩ := cut_nums (i := i) (s := s) (y := y) (m := m) hiy HM4.out hms hs2
   have k5 : a2 <= d := Nat.le_trans k2 hd
   have k6 : (a1 : Int) <= a2 := Int.ofNat_le.2 k1
   have k7 : (a2 : Int) <= d := Int.ofNat_le.2 k5
   have k8 : (0 : Int) <= a1 := Int.natCast_nonneg _
   have k9 : (1 : Int) <= n := Int.ofNat_le.2 g0n
   have k10 : (n : Int) <= c := Int.ofNat_le.2 hc
   have HA := Lib.hid (And.intro ha1 (And.intro ha2 (And.intro hi1 (And.intro k3 k4))))
   clear ha1 ha2 hi1 k3 k4
   rcases Nat.eq_zero_or_pos i with h0 | h0
   ·have p1 : decide ((0 : Int) < (i : Int)) = false := by simp; omega
    have p2 : decide (0 < i) = false := by simp; omega
    obtain ⟨Lb, hLb⟩ : ∃ Lb, L ++ 91 :: wtj f i = Lb := ⟨_, rfl⟩
    have HLb : Hid (Lb ++ f i = L ++ 91 :: wtj f (i + 1)) := Lib.hid (by rw [<- hLb]; show _ = L ++ 91 :: (wtj f i ++ ((if i = 0 then [] else [44, 32]) ++ f i)); rw [if_pos h0]; simp)
    rw [hLb] at HI
    clear hLb h0
    go_upto_region 10 with fail
    obtain ⟨wb, hwb⟩ : ∃ wb : World, wb = wr := ⟨wr, rfl⟩
    rw [<- hwb] at HI HT HK HO ⊢
    clear hwb
    obtain ⟨c0, c1, c2, c3, c4, c5, c6⟩ := box_cells HT.out
    refine Rk.begin (S := fun wS => wS.cell? ⟨w.heap.size, 0, none⟩ = some (.int .i64 K) /\ wS.cell? ⟨w.heap.size, 1, none⟩ = some (.int .i64 B) /\ wS.cell? ⟨w.heap.size, 2, none⟩ = some (.int .i64 F) /\ wS.cell? ⟨w.heap.size, 3, none⟩ = some (.int .i64 R) /\ wS.cell? ⟨w.heap.size, 4, none⟩ = some (.int .i64 O) /\ wS.cell? ⟨w.heap.size, 5, none⟩ = some (.slice (some ⟨pb, po, none⟩) n c) /\ wS.cell? ⟨w.heap.size, 6, none⟩ = some (.slice (some ⟨vb, vo, none⟩) m d) /\ Below wb.heap.size wb wS) 17 (by kernel_rfl) ⟨c0, c1, c2, c3, c4, c5, c6, Below.drew (Below.refl _ _)⟩ (fun hHeld => ?_)
    refine Rk.takeP (i := 0) (v := ?_) rfl (by kernel_rfl) (by kernel_rfl) (by kernel_rfl) (by kernel_rfl) (fun _ _ _ h => h) (Or.inl ⟨by kernel_rfl, ?_⟩) (by assumption) ?_
    rotate_left
    ·((intro w hSw; go_simp) <;> with_reducible rfl)
    try simp only [Act.put, List.setIfInBounds_toArray, List.set_cons_zero, List.set_cons_succ]
    refine Rk.takeP (i := 1) (v := ?_) rfl (by kernel_rfl) (by kernel_rfl) (by kernel_rfl) (by kernel_rfl) (fun _ _ _ h => h) (Or.inl ⟨by kernel_rfl, ?_⟩) (by assumption) ?_
    rotate_left
    ·((intro w hSw; go_simp) <;> with_reducible rfl)
    try simp only [Act.put, List.setIfInBounds_toArray, List.set_cons_zero, List.set_cons_succ]
    refine Rk.take [16, 17] (i := 2) (v := ?_) rfl (by kernel_rfl) (by kernel_rfl) (by kernel_rfl) (by kernel_rfl) (by kernel_rfl) (fun _ _ _ h => h) (Or.inl ⟨by kernel_rfl, ?_⟩) (by assumption) ?_
    rotate_left
    ·((intro w hSw; (try dsimp only at hSw); go_simp) <;> with_reducible rfl)
    try simp only [Act.put, List.setIfInBounds_toArray, List.set_cons_zero, List.set_cons_succ]
    refine Rk.takeP (i := 3) (v := ?_) rfl (by kernel_rfl) (by kernel_rfl) (by kernel_rfl) (by kernel_rfl) (fun _ _ _ h => h) (Or.inl ⟨by kernel_rfl, ?_⟩) (by assumption) ?_
    rotate_left
    ·((intro w hSw; go_simp) <;> with_reducible rfl)
    try simp only [Act.put, List.setIfInBounds_toArray, List.set_cons_zero, List.set_cons_succ]
    refine Rk.take [5, 16, 17] (i := 4) (v := ?_) rfl (by kernel_rfl) (by kernel_rfl) (by kernel_rfl) (by kernel_rfl) (by kernel_rfl) (fun _ _ _ h => h) (Or.inl ⟨by kernel_rfl, ?_⟩) (by assumption) ?_
    rotate_left
    ·((intro w hSw; (try dsimp only at hSw); go_simp) <;> with_reducible rfl)
    try simp only [Act.put, List.setIfInBounds_toArray, List.set_cons_zero, List.set_cons_succ]
    refine Rk.takeP (i := 5) (v := ?_) rfl (by kernel_rfl) (by kernel_rfl) (by kernel_rfl) (by kernel_rfl) (fun _ _ _ h => h) (Or.inl ⟨by kernel_rfl, ?_⟩) (by assumption) ?_
    rotate_left
    ·((intro w hSw; go_simp) <;> with_reducible rfl)
    try simp only [Act.put, List.setIfInBounds_toArray, List.set_cons_zero, List.set_cons_succ]
    refine Rk.takeP (i := 6) (v := ?_) rfl (by kernel_rfl) (by kernel_rfl) (by kernel_rfl) (by kernel_rfl) (fun _ _ _ h => h) (Or.inl ⟨by kernel_rfl, ?_⟩) (by assumption) ?_
    rotate_left
    ·((intro w hSw; go_simp) <;> with_reducible rfl)
    try simp only [Act.put, List.setIfInBounds_toArray, List.set_cons_zero, List.set_cons_succ]
    refine Rk.take [15, 16, 17] (i := 7) (v := ?_) rfl (by kernel_rfl) (by kernel_rfl) (by kernel_rfl) (by kernel_rfl) (by kernel_rfl) (fun _ _ _ h => h) (Or.inl ⟨by kernel_rfl, ?_⟩) (by assumption) ?_
    rotate_left
    ·((intro w hSw; (try dsimp only at hSw); go_simp) <;> with_reducible rfl)
    try simp only [Act.put, List.setIfInBounds_toArray, List.set_cons_zero, List.set_cons_succ]
    refine Rk.takeP (i := 8) (v := ?_) rfl (by kernel_rfl) (by kernel_rfl) (by kernel_rfl) (by kernel_rfl) (fun _ _ _ h => h) (Or.inl ⟨by kernel_rfl, ?_⟩) (by assumption) ?_
    rotate_left
    ·((intro w hSw; go_simp) <;> with_reducible rfl)
    try simp only [Act.put, List.setIfInBounds_toArray, List.set_cons_zero, List.set_cons_succ]
    refine Rk.takeP (i := 9) (v := ?_) rfl (by kernel_rfl) (by kernel_rfl) (by kernel_rfl) (by kernel_rfl) (fun _ _ _ h => h) (Or.inl ⟨by kernel_rfl, ?_⟩) (by assumption) ?_
    rotate_left
    ·((intro w hSw; go_simp) <;> with_reducible rfl)
    try simp only [Act.put, List.setIfInBounds_toArray, List.set_cons_zero, List.set_cons_succ]
    refine Rk.takeP (i := 10) (v := ?_) rfl (by kernel_rfl) (by kernel_rfl) (by kernel_rfl) (by kernel_rfl) (fun _ _ _ h => h) (Or.inl ⟨by kernel_rfl, ?_⟩) (by assumption) ?_
    rotate_left
    ·((intro w hSw; go_simp) <;> with_reducible rfl)
    try simp only [Act.put, List.setIfInBounds_toArray, List.set_cons_zero, List.set_cons_succ]
    refine Rk.takeP (i := 11) (v := ?_) rfl (by kernel_rfl) (by kernel_rfl) (by kernel_rfl) (by kernel_rfl) (fun _ _ _ h => h) (Or.inl ⟨by kernel_rfl, ?_⟩) (by assumption) ?_
    rotate_left
    ·((intro w hSw; go_simp) <;> with_reducible rfl)
    try simp only [Act.put, List.setIfInBounds_toArray, List.set_cons_zero, List.set_cons_succ]
    refine Rk.takeP (i := 12) (v := ?_) rfl (by kernel_rfl) (by kernel_rfl) (by kernel_rfl) (by kernel_rfl) (fun _ _ _ h => h) (Or.inl ⟨by kernel_rfl, ?_⟩) (by assumption) ?_
    rotate_left
    ·((intro w hSw; go_simp) <;> with_reducible rfl)
    try simp only [Act.put, List.setIfInBounds_toArray, List.set_cons_zero, List.set_cons_succ]
    refine Rk.takeP (i := 13) (v := ?_) rfl (by kernel_rfl) (by kernel_rfl) (by kernel_rfl) (by kernel_rfl) (fun _ _ _ h => h) (Or.inl ⟨by kernel_rfl, ?_⟩) (by assumption) ?_
    rotate_left
    ·((intro w hSw; go_simp) <;> with_reducible rfl)
    try simp only [Act.put, List.setIfInBounds_toArray, List.set_cons_zero, List.set_cons_succ]
    refine Rk.takeP (i := 14) (v := ?_) rfl (by kernel_rfl) (by kernel_rfl) (by kernel_rfl) (by kernel_rfl) (fun _ _ _ h => h) (Or.inl ⟨by kernel_rfl, ?_⟩) (by assumption) ?_
    rotate_left
    ·((intro w hSw; go_simp) <;> with_reducible rfl)
    try simp only [Act.put, List.setIfInBounds_toArray, List.set_cons_zero, List.set_cons_succ]
    refine Rk.takeP (i := 15) (v := ?_) rfl (by kernel_rfl) (by kernel_rfl) (by kernel_rfl) (by kernel_rfl) (fun _ _ _ h => h) (Or.inl ⟨by kernel_rfl, ?_⟩) (by assumption) ?_
    rotate_left
    ·((intro w hSw; go_simp) <;> with_reducible rfl)
    try simp only [Act.put, List.setIfInBounds_toArray, List.set_cons_zero, List.set_cons_succ]
    refine Rk.takeP (i := 16) (v := ?_) rfl (by kernel_rfl) (by kernel_rfl) (by kernel_rfl) (by kernel_rfl) (fun _ _ _ h => h) (Or.inl ⟨by kernel_rfl, ?_⟩) (by assumption) ?_
    rotate_left
    ·((intro w hSw; go_simp) <;> with_reducible rfl)
    try simp only [Act.put, List.setIfInBounds_toArray, List.set_cons_zero, List.set_cons_succ]
    refine Rk.tail [17] [_] (by kernel_rfl) (by kernel_rfl) rfl (by decide) ?_
    obtain ⟨c0, c1, c2, c3, c4, c5, c6, KBB⟩ := hHeld
    obtain ⟨ha1, ha2, hi1, k3, k4⟩ := HA.out
    have hvl : ((vs.drop (i * s)).take s).length = s := by rw [List.length_take, List.length_drop, HM.out, ha1]; omega
    have hll : Lb.length + (f i).length <= 140737488355328 := by
     have h1 := HLJ.out (i + 1) hiy
     have h2 := congrArg List.length HLb.out
     rw [List.length_append, List.length_append, List.length_cons] at h2
     omega
    have IHI := IH.out ((vs.drop (i * s)).take s) (if c = 1 then some ⟨pb, po, none⟩ else some ⟨pb, po + 1, none⟩) (c - 1) (some ⟨vb, vo + a1 * 2, none⟩) (d - a1) Lb wb.drew (Nat.le_trans hw HK.out.size) HI.out (fun u h => HLA.out u (HK.out.drew.trans h)) (fun u h => by
      have h1 := PA u (HK.out.drew.trans h)
      by_cases e : c = 1
      ·exact SlI.empty (by rw [hnt]; omega)
      ·rw [if_neg e]
       have h2 := SlI.drop h1 1
       rw [HZS.out] at h2
       exact h2)
     (fun u h => by rw [<- ha1]; exact SlV_cut (PB u (HK.out.drew.trans h)) (i * s) s) (by rw [hvl]; exact hs.symm) (by rw [hnt]; omega) (by omega) (by rw [hvl]; omega) (by omega) (by rw [<- HF.out i]; exact hll)
    rw [hvl, hnt, <- HF.out i] at IHI
    try unfold Tn at IHI
    have hda : ¬ d = a1 := by omega
    have hsub : a2 - a1 = s := by omega
    have IHH := Lib.hid IHI
    have TBB := Lib.hid (show wb.drew.heap[w.heap.size]? = some (.cells #[.int .i64 K, .int .i64 B, .int .i64 F, .int .i64 R, .int .i64 O, .slice (some ⟨pb, po, none⟩) n c, .slice (some ⟨vb, vo, none⟩) m d] 27 (0, 0)) from HT.out)
    clear IHI k3 k4 ha1 ha2 hi1 hvl hll e2 e3 e4
    go_wp2_with (go_at_call 76; rw [if_neg hda, hsub]; (with_reducible refine IHH.out.mono ?_); rintro e u9 ⟨rfl, h9, hb9, ho9⟩)
    go_roundw
    case rel => exact ⟨i + 1, by simp, by omega, Lib.hid (by rw [<- HLb.out]; exact h9), Lib.hid (ho9 _ _ TBB.out hnb hn5), Lib.hid (HK.out.drew.trans hb9), Lib.hid (HO.out.drew.trans ho9)⟩
    case measure => simp [intOf]; omega
   ·have p1 : decide ((0 : Int) < (i : Int)) = true := by simp; omega
    have p2 : decide (0 < i) = true := by simp; omega
    obtain ⟨Lc, hLc⟩ : ∃ Lc, L ++ 91 :: wtj f i = Lc := ⟨_, rfl⟩
    have HLb : Hid ((Lc ++ [44, 32]) ++ f i = L ++ 91 :: wtj f (i + 1)) := Lib.hid (by rw [<- hLc]; show _ = L ++ 91 :: (wtj f i ++ ((if i = 0 then [] else [44, 32]) ++ f i)); rw [if_neg (by omega)]; simp)
    rw [hLc] at HI
    have hlc : Lc.length + (⟨#[44, 32]⟩ : ByteArray).size <= 140737488355328 := by
     have h1 := HLJ.out (i + 1) hiy
     have h2 := congrArg List.length HLb.out
     rw [List.length_append, List.length_append, List.length_append, List.length_cons] at h2
     show Lc.length + 2 <= _
     simp only [List.length_cons, List.length_nil] at h2
     omega
    clear hLc
    go_upto_region 10 with (go_at_call 105; (with_reducible refine (WS.out (Lc) ⟨#[44, 32]⟩ _ HI.out (Nat.le_trans hw HK.out.size) hlc).mono ?_); rintro e u4 ⟨rfl, h4, hb4, ho4⟩; rw [Ln.cells_app] at h4)
    obtain ⟨Lb, hLb⟩ : ∃ Lb, Lc ++ [44, 32] = Lb := ⟨_, rfl⟩
    obtain ⟨wb, hwb⟩ : ∃ wb : World, wb = u4 := ⟨u4, rfl⟩
    replace HI := Lib.hid (show Lib.IsBuilder 98 5 Bs bb (Lib.byteCells (Lc ++ [44, 32])) u4 from Or.inr h4)
    replace HT := Lib.hid (ho4 _ _ HT.out hnb hn5)
    replace HK := Lib.hid (HK.out.trans hb4)
    replace HO := Lib.hid (HO.out.trans ho4)
    rw [hLb] at HI HLb
    rw [<- hwb] at HI HT HK HO ⊢
    clear hwb hLb h4 hb4 ho4 h0 hlc
    obtain ⟨c0, c1, c2, c3, c4, c5, c6⟩ := box_cells HT.out
    refine Rk.begin (S := fun wS => wS.cell? ⟨w.heap.size, 0, none⟩ = some (.int .i64 K) /\ wS.cell? ⟨w.heap.size, 1, none⟩ = some (.int .i64 B) /\ wS.cell? ⟨w.heap.size, 2, none⟩ = some (.int .i64 F) /\ wS.cell? ⟨w.heap.size, 3, none⟩ = some (.int .i64 R) /\ wS.cell? ⟨w.heap.size, 4, none⟩ = some (.int .i64 O) /\ wS.cell? ⟨w.heap.size, 5, none⟩ = some (.slice (some ⟨pb, po, none⟩) n c) /\ wS.cell? ⟨w.heap.size, 6, none⟩ = some (.slice (some ⟨vb, vo, none⟩) m d) /\ Below wb.heap.size wb wS) 17 (by kernel_rfl) ⟨c0, c1, c2, c3, c4, c5, c6, Below.drew (Below.refl _ _)⟩ (fun hHeld => ?_)
    refine Rk.takeP (i := 0) (v := ?_) rfl (by kernel_rfl) (by kernel_rfl) (by kernel_rfl) (by kernel_rfl) (fun _ _ _ h => h) (Or.inl ⟨by kernel_rfl, ?_⟩) (by assumption) ?_
    rotate_left
    ·((intro w hSw; go_simp) <;> with_reducible rfl)
    try simp only [Act.put, List.setIfInBounds_toArray, List.set_cons_zero, List.set_cons_succ]
    refine Rk.takeP (i := 1) (v := ?_) rfl (by kernel_rfl) (by kernel_rfl) (by kernel_rfl) (by kernel_rfl) (fun _ _ _ h => h) (Or.inl ⟨by kernel_rfl, ?_⟩) (by assumption) ?_
    rotate_left
    ·((intro w hSw; go_simp) <;> with_reducible rfl)
    try simp only [Act.put, List.setIfInBounds_toArray, List.set_cons_zero, List.set_cons_succ]
    refine Rk.take [16, 17] (i := 2) (v := ?_) rfl (by kernel_rfl) (by kernel_rfl) (by kernel_rfl) (by kernel_rfl) (by kernel_rfl) (fun _ _ _ h => h) (Or.inl ⟨by kernel_rfl, ?_⟩) (by assumption) ?_
    rotate_left
    ·((intro w hSw; (try dsimp only at hSw); go_simp) <;> with_reducible rfl)
    try simp only [Act.put, List.setIfInBounds_toArray, List.set_cons_zero, List.set_cons_succ]
    refine Rk.takeP (i := 3) (v := ?_) rfl (by kernel_rfl) (by kernel_rfl) (by kernel_rfl) (by kernel_rfl) (fun _ _ _ h => h) (Or.inl ⟨by kernel_rfl, ?_⟩) (by assumption) ?_
    rotate_left
    ·((intro w hSw; go_simp) <;> with_reducible rfl)
    try simp only [Act.put, List.setIfInBounds_toArray, List.set_cons_zero, List.set_cons_succ]
    refine Rk.take [5, 16, 17] (i := 4) (v := ?_) rfl (by kernel_rfl) (by kernel_rfl) (by kernel_rfl) (by kernel_rfl) (by kernel_rfl) (fun _ _ _ h => h) (Or.inl ⟨by kernel_rfl, ?_⟩) (by assumption) ?_
    rotate_left
    ·((intro w hSw; (try dsimp only at hSw); go_simp) <;> with_reducible rfl)
    try simp only [Act.put, List.setIfInBounds_toArray, List.set_cons_zero, List.set_cons_succ]
    refine Rk.takeP (i := 5) (v := ?_) rfl (by kernel_rfl) (by kernel_rfl) (by kernel_rfl) (by kernel_rfl) (fun _ _ _ h => h) (Or.inl ⟨by kernel_rfl, ?_⟩) (by assumption) ?_
    rotate_left
    ·((intro w hSw; go_simp) <;> with_reducible rfl)
    try simp only [Act.put, List.setIfInBounds_toArray, List.set_cons_zero, List.set_cons_succ]
    refine Rk.takeP (i := 6) (v := ?_) rfl (by kernel_rfl) (by kernel_rfl) (by kernel_rfl) (by kernel_rfl) (fun _ _ _ h => h) (Or.inl ⟨by kernel_rfl, ?_⟩) (by assumption) ?_
    rotate_left
    ·((intro w hSw; go_simp) <;> with_reducible rfl)
    try simp only [Act.put, List.setIfInBounds_toArray, List.set_cons_zero, List.set_cons_succ]
    refine Rk.take [15, 16, 17] (i := 7) (v := ?_) rfl (by kernel_rfl) (by kernel_rfl) (by kernel_rfl) (by kernel_rfl) (by kernel_rfl) (fun _ _ _ h => h) (Or.inl ⟨by kernel_rfl, ?_⟩) (by assumption) ?_
    rotate_left
    ·((intro w hSw; (try dsimp only at hSw); go_simp) <;> with_reducible rfl)
    try simp only [Act.put, List.setIfInBounds_toArray, List.set_cons_zero, List.set_cons_succ]
    refine Rk.takeP (i := 8) (v := ?_) rfl (by kernel_rfl) (by kernel_rfl) (by kernel_rfl) (by kernel_rfl) (fun _ _ _ h => h) (Or.inl ⟨by kernel_rfl, ?_⟩) (by assumption) ?_
    rotate_left
    ·((intro w hSw; go_simp) <;> with_reducible rfl)
    try simp only [Act.put, List.setIfInBounds_toArray, List.set_cons_zero, List.set_cons_succ]
    refine Rk.takeP (i := 9) (v := ?_) rfl (by kernel_rfl) (by kernel_rfl) (by kernel_rfl) (by kernel_rfl) (fun _ _ _ h => h) (Or.inl ⟨by kernel_rfl, ?_⟩) (by assumption) ?_
    rotate_left
    ·((intro w hSw; go_simp) <;> with_reducible rfl)
    try simp only [Act.put, List.setIfInBounds_toArray, List.set_cons_zero, List.set_cons_succ]
    refine Rk.takeP (i := 10) (v := ?_) rfl (by kernel_rfl) (by kernel_rfl) (by kernel_rfl) (by kernel_rfl) (fun _ _ _ h => h) (Or.inl ⟨by kernel_rfl, ?_⟩) (by assumption) ?_
    rotate_left
    ·((intro w hSw; go_simp) <;> with_reducible rfl)
    try simp only [Act.put, List.setIfInBounds_toArray, List.set_cons_zero, List.set_cons_succ]
    refine Rk.takeP (i := 11) (v := ?_) rfl (by kernel_rfl) (by kernel_rfl) (by kernel_rfl) (by kernel_rfl) (fun _ _ _ h => h) (Or.inl ⟨by kernel_rfl, ?_⟩) (by assumption) ?_
    rotate_left
    ·((intro w hSw; go_simp) <;> with_reducible rfl)
    try simp only [Act.put, List.setIfInBounds_toArray, List.set_cons_zero, List.set_cons_succ]
    refine Rk.takeP (i := 12) (v := ?_) rfl (by kernel_rfl) (by kernel_rfl) (by kernel_rfl) (by kernel_rfl) (fun _ _ _ h => h) (Or.inl ⟨by kernel_rfl, ?_⟩) (by assumption) ?_
    rotate_left
    ·((intro w hSw; go_simp) <;> with_reducible rfl)
    try simp only [Act.put, List.setIfInBounds_toArray, List.set_cons_zero, List.set_cons_succ]
    refine Rk.takeP (i := 13) (v := ?_) rfl (by kernel_rfl) (by kernel_rfl) (by kernel_rfl) (by kernel_rfl) (fun _ _ _ h => h) (Or.inl ⟨by kernel_rfl, ?_⟩) (by assumption) ?_
    rotate_left
    ·((intro w hSw; go_simp) <;> with_reducible rfl)
    try simp only [Act.put, List.setIfInBounds_toArray, List.set_cons_zero, List.set_cons_succ]
    refine Rk.takeP (i := 14) (v := ?_) rfl (by kernel_rfl) (by kernel_rfl) (by kernel_rfl) (by kernel_rfl) (fun _ _ _ h => h) (Or.inl ⟨by kernel_rfl, ?_⟩) (by assumption) ?_
    rotate_left
    ·((intro w hSw; go_simp) <;> with_reducible rfl)
    try simp only [Act.put, List.setIfInBounds_toArray, List.set_cons_zero, List.set_cons_succ]
    refine Rk.takeP (i := 15) (v := ?_) rfl (by kernel_rfl) (by kernel_rfl) (by kernel_rfl) (by kernel_rfl) (fun _ _ _ h => h) (Or.inl ⟨by kernel_rfl, ?_⟩) (by assumption) ?_
    rotate_left
    ·((intro w hSw; go_simp) <;> with_reducible rfl)
    try simp only [Act.put, List.setIfInBounds_toArray, List.set_cons_zero, List.set_cons_succ]
    refine Rk.takeP (i := 16) (v := ?_) rfl (by kernel_rfl) (by kernel_rfl) (by kernel_rfl) (by kernel_rfl) (fun _ _ _ h => h) (Or.inl ⟨by kernel_rfl, ?_⟩) (by assumption) ?_
    rotate_left
    ·((intro w hSw; go_simp) <;> with_reducible rfl)
    try simp only [Act.put, List.setIfInBounds_toArray, List.set_cons_zero, List.set_cons_succ]
    refine Rk.tail [17] [_] (by kernel_rfl) (by kernel_rfl) rfl (by decide) ?_
    obtain ⟨c0, c1, c2, c3, c4, c5, c6, KBB⟩ := hHeld
    obtain ⟨ha1, ha2, hi1, k3, k4⟩ := HA.out
    have hvl : ((vs.drop (i * s)).take s).length = s := by rw [List.length_take, List.length_drop, HM.out, ha1]; omega
    have hll : Lb.length + (f i).length <= 140737488355328 := by
     have h1 := HLJ.out (i + 1) hiy
     have h2 := congrArg List.length HLb.out
     rw [List.length_append, List.length_append, List.length_cons] at h2
     omega
    have IHI := IH.out ((vs.drop (i * s)).take s) (if c = 1 then some ⟨pb, po, none⟩ else some ⟨pb, po + 1, none⟩) (c - 1) (some ⟨vb, vo + a1 * 2, none⟩) (d - a1) Lb wb.drew (Nat.le_trans hw HK.out.size) HI.out (fun u h => HLA.out u (HK.out.drew.trans h)) (fun u h => by
      have h1 := PA u (HK.out.drew.trans h)
      by_cases e : c = 1
      ·exact SlI.empty (by rw [hnt]; omega)
      ·rw [if_neg e]
       have h2 := SlI.drop h1 1
       rw [HZS.out] at h2
       exact h2)
     (fun u h => by rw [<- ha1]; exact SlV_cut (PB u (HK.out.drew.trans h)) (i * s) s) (by rw [hvl]; exact hs.symm) (by rw [hnt]; omega) (by omega) (by rw [hvl]; omega) (by omega) (by rw [<- HF.out i]; exact hll)
    rw [hvl, hnt, <- HF.out i] at IHI
    try unfold Tn at IHI
    have hda : ¬ d = a1 := by omega
    have hsub : a2 - a1 = s := by omega
    have IHH := Lib.hid IHI
    have TBB := Lib.hid (show wb.drew.heap[w.heap.size]? = some (.cells #[.int .i64 K, .int .i64 B, .int .i64 F, .int .i64 R, .int .i64 O, .slice (some ⟨pb, po, none⟩) n c, .slice (some ⟨vb, vo, none⟩) m d] 27 (0, 0)) from HT.out)
    clear IHI k3 k4 ha1 ha2 hi1 hvl hll e2 e3 e4
    go_wp2_with (go_at_call 76; rw [if_neg hda, hsub]; (with_reducible refine IHH.out.mono ?_); rintro e u9 ⟨rfl, h9, hb9, ho9⟩)
    go_roundw
    case rel => exact ⟨i + 1, by simp, by omega, Lib.hid (by rw [<- HLb.out]; exact h9), Lib.hid (ho9 _ _ TBB.out hnb hn5), Lib.hid (HK.out.drew.trans hb9), Lib.hid (HO.out.drew.trans ho9)⟩
    case measure => simp [intOf]; omega
  ·obtain rfl : i = y := by omega
   have gN : decide ((i : Int) < (i : Int)) = false := by simp
   have hle : (L ++ 91 :: wtj f i).length + (⟨#[93]⟩ : ByteArray).size <= 140737488355328 := by
    have h1 := HLJ.out i (Nat.le_refl _)
    rw [List.length_append, List.length_cons]
    show _ + 1 <= _
    omega
   go_wp2_with (go_at_call 105; (with_reducible refine (WS.out (L ++ 91 :: wtj f i) ⟨#[93]⟩ _ HI.out (Nat.le_trans hw HK.out.size) hle).mono ?_); rintro e u5 ⟨rfl, h5, hb5, ho5⟩; rw [Ln.cells_app] at h5)
   go_end0
   exact ⟨rfl, .inr (by have h9 := h5; rw [List.append_assoc] at h9; exact h9), HK.out.trans hb5, HO.out.trans ho5⟩
end Go.Proofs.YteaaikmejacpaaaGreatDoor.Te


namespace Go.Proofs.YteaaikmejacpaaaGreatDoor.Te
open Go.ChangeShapes Go.WideShapes Go.ChangeAt Go.RowKit
open Fx Va Sh
set_option maxRecDepth 8000
set_option linter.unusedVariables false
set_option linter.unusedSimpArgs false

theorem twr (K B F R O : Int) (b0 : -9223372036854775808 <= B) (b1 : B <= 9223372036854775807) (Bs bb : Nat) : ∀ (zs : List Int) (vs : List (Int × Int)) (p : Option Addr) (c : Nat) (q : Option Addr) (d : Nat) (L : List UInt8) (w : World),
  Bs <= w.heap.size -> Lib.IsBuilder 98 5 Bs bb (Lib.byteCells L) w -> (∀ u, Below Bs w u -> Tx.LA u) -> (∀ u, Below Bs w u -> SlI u p zs) -> (∀ u, Below Bs w u -> SlV u q vs) -> vE zs = 0 -> (vs.length : Int) = sp zs -> zs.length <= c -> c <= 9223372036854775807 -> vs.length <= d -> d <= 9223372036854775807 -> L.length + (wtx K B F R O zs vs).length <= 140737488355328 ->
  Calls Tryz.prog 76 #[.pointer (some ⟨bb, 0, none⟩), Tn K B F R O p zs.length c q vs.length d] w fun e w' => e = .returned (.tuple #[]) /\ Lib.IsBuilder 98 5 Bs bb (Lib.byteCells (L ++ wtx K B F R O zs vs)) w' /\ Below Bs w w' /\ Lib.OthersKept 5 (some bb) w w'
 | [], vs, p, c, q, d, L, w, hw, hI, HL, PA, PB, hv, hl, hc, hc2, hd, hd2, hlen => wr_nil K B F R O b0 b1 Bs bb [] vs p c q d L w hw hI HL PA PB rfl (by have e : sp ([] : List Int) = 1 := rfl; rw [e] at hl; omega) hlen
 | z :: zt, vs, p, c, q, d, L, w, hw, hI, HL, PA, PB, hv, hl, hc, hc2, hd, hd2, hlen => wr_cons K B F R O b0 b1 Bs bb (z :: zt) vs p c q d L w hw hI HL PA PB z zt rfl hv hl hc hc2 hd hd2 hlen
   (Lib.hid fun vs' p' c' q' d' L' u h1 h2 h3 h4 h5 h6 h7 h8 h9 h10 h11 => twr K B F R O b0 b1 Bs bb zt vs' p' c' q' d' L' u h1 h2 h3 h4 h5 (vE_drop hv 1) h6 h7 h8 h9 h10 h11)
/-- The text of Format. -/
def fmX (K B F R O : Int) (zs : List Int) (vs : List (Int × Int)) : List UInt8 := if tE K B F R O zs vs ≠ 0 then [] else wtx K B F R O zs vs
set_option maxRecDepth 100000 in
set_option maxHeartbeats 2000000 in
theorem tfm (K B F R O : Int) (p : Option Addr) (zs : List Int) (c : Nat) (q : Option Addr) (vs : List (Int × Int)) (d : Nat) (w : World) (b0 : -9223372036854775808 <= B) (b1 : B <= 9223372036854775807) (hn : zs.length <= maxLen) (hm : vs.length <= maxLen) (RA : Hid (SlI w p zs)) (RB : Hid (SlV w q vs)) (hc : zs.length <= c) (hc2 : c <= 9223372036854775807) (hd : vs.length <= d) (hd2 : d <= 9223372036854775807) (hLA : Tx.LA w) :
  Calls Tryz.prog 42 #[Tn K B F R O p zs.length c q vs.length d] w fun e w' => e = .returned (.string ⟨(fmX K B F R O zs vs).toArray⟩) /\ Below w.heap.size w w' := by
 have TV0 := fun w h1 h2 => tval K B F R O p zs c q vs d w b0 b1 hn hm h1 h2
 unfold fmX
 obtain ⟨m, hmm⟩ : ∃ m, vs.length = m := ⟨_, rfl⟩
 have HM := Lib.hid hmm
 have B0 : Hid (Below w.heap.size w (w.alloc (Obj.cells #[Value.int .i64 K, Value.int .i64 B, Value.int .i64 F, Value.int .i64 R, Value.int .i64 O, Value.slice p zs.length c, Value.slice q m d] 27))) := Lib.hid ((Below.refl _ _).alloc (Nat.le_refl _) _)
 have T0 : Hid (B7 (w.alloc (Obj.cells #[Value.int .i64 K, Value.int .i64 B, Value.int .i64 F, Value.int .i64 R, Value.int .i64 O, Value.slice p zs.length c, Value.slice q m d] 27)) (w.heap.size) (.int .i64 K) (.int .i64 B) (.int .i64 F) (.int .i64 R) (.int .i64 O) (.slice p zs.length c) (.slice q m d)) := Lib.hid (B7.new w _ (.int .i64 K) (.int .i64 B) (.int .i64 F) (.int .i64 R) (.int .i64 O) (.slice p zs.length c) (.slice q m d))
 by_cases ht : tE K B F R O zs vs = 0
 ·rw [if_neg (by simpa using ht)]
  rw [ht] at TV0
  obtain ⟨-, hv, tl, -⟩ := tE_ok ht
  obtain ⟨h6, hlow, -, hsp, -⟩ := valid_of hv
  have hlen := wtx_len K B F R O zs vs hlow
  have hlen2 : ([] : List UInt8).length + (wtx K B F R O zs vs).length <= 140737488355328 := by
   have h3 : (64 + 4 * zs.length) * (sp zs).toNat <= 100 * 4096 := Nat.mul_le_mul (by omega) (by omega)
   rw [List.length_nil]; omega
  have WR := Lib.hid fun Bs bb u h1 h2 h3 h4 h5 => twr K B F R O b0 b1 Bs bb zs vs p c q d [] u h1 h2 h3 h4 h5 hv tl hc hc2 hd hd2 hlen2
  obtain ⟨X, hX⟩ : ∃ X, wtx K B F R O zs vs = X := ⟨_, rfl⟩
  rw [hX] at WR ⊢
  rw [hmm] at TV0 WR ⊢
  have TV := Lib.hid TV0
  have HLA := Lib.hid hLA
  clear TV0 ht hlen hlen2 hX hm hmm tl hv hsp hlow h6 hd hLA
  unfold Tn at *
  go_enter Tryz.func42, Tryz.ntmps42
  go_wp2_with (first | (go_at_call 20; (with_reducible refine (TV.out _ (Lib.hid (SlI.keep B0.out RA.out)) (Lib.hid (SlV.below RB.out B0.out))).mono ?_); rintro e w1 ⟨rfl, hb⟩; have KB := Lib.hid (B0.out.trans (hb.mono B0.out.size)); have TB := Lib.hid (B7.keep hb (by simp) T0.out); obtain ⟨⟨c0, c1, c2, c3, c4, c5, c6⟩, -⟩ := TB.out; have hs1 := KB.out.size; have lt1 : w.heap.size < w1.heap.size := TB.out.lt; have HIB := Lib.hid (show Lib.IsBuilder 98 5 w1.heap.size w1.heap.size (Lib.byteCells []) (w1.alloc (Obj.cells #[Value.pointer none, Value.slice none 0 0] 98)) from .inl ⟨Nat.le_refl _, .slice none 0 0, heap_alloc_new _ _, World.ownsRow_nil _ _ _ _, fun e => by cases e⟩); have W2 := Lib.hid (WR.out w1.heap.size w1.heap.size (w1.alloc (Obj.cells #[Value.pointer none, Value.slice none 0 0] 98)) (by simp) HIB.out (fun u h => HLA.out.below ((KB.out.alloc hs1 _).trans (h.mono hs1))) (fun u h => SlI.keep ((KB.out.alloc hs1 _).trans (h.mono hs1)) RA.out) (fun u h => SlV.below RB.out ((KB.out.alloc hs1 _).trans (h.mono hs1)))); clear hb) | (go_at_call 76; (with_reducible refine W2.out.mono ?_); rintro e w2 ⟨rfl, h2, hb2, ho2⟩; rw [List.nil_append] at h2; have K2 := Lib.hid ((KB.out.alloc hs1 (Obj.cells #[Value.pointer none, Value.slice none 0 0] 98)).trans (hb2.mono hs1)); have hs2 := hb2.size; have H2 := Lib.hid h2; clear ho2 hb2 h2) | (go_at_call 77; (with_reducible refine (Tryz.Builder_String_any w1.heap.size w1.heap.size X w2 H2.out (by simp at hs2; omega)).mono ?_); rintro e w3 ⟨rfl, hb3⟩; have K3 := Lib.hid (K2.out.trans (hb3.mono hs1)); clear hb3))
  go_ret
  exact ⟨rfl, K3.out⟩
 ·rw [if_pos ht]
  obtain ⟨E, hE⟩ : ∃ E, tE K B F R O zs vs = E := ⟨_, rfl⟩
  rw [hE] at TV0 ht
  have g1 : (E == 0) = false := by simpa using ht
  have g2 : (E != 0) = true := by simpa using ht
  rw [hmm] at TV0 ⊢
  have TV := Lib.hid TV0
  clear TV0 ht hE hm hmm hd
  unfold Tn at *
  go_enter Tryz.func42, Tryz.ntmps42
  go_wp2_with (go_at_call 20; (with_reducible refine (TV.out _ (Lib.hid (SlI.keep B0.out RA.out)) (Lib.hid (SlV.below RB.out B0.out))).mono ?_); rintro e w1 ⟨rfl, hb⟩; have KB := Lib.hid (B0.out.trans (hb.mono B0.out.size)); clear hb)
  go_ret
  exact ⟨rfl, KB.out⟩
end Go.Proofs.YteaaikmejacpaaaGreatDoor.Te


namespace Go.Proofs.YteaaikmejacpaaaGreatDoor.Te
open Go.ChangeShapes Go.WideShapes Go.ChangeAt Go.RowKit
open Fx Va Sh
set_option maxRecDepth 8000
set_option linter.unusedVariables false
set_option linter.unusedSimpArgs false

/-- A tensor as an answer: its rows read as the lists. -/
def TU (K B F R O : Int) (zs : List Int) (vs : List (Int × Int)) (n m : Nat) (er : Int) (w : World) (e : Ending) (w' : World) : Prop := ∃ p c q d, e = .returned (.tuple #[.agg #[.int .i64 K, .int .i64 B, .int .i64 F, .int .i64 R, .int .i64 O, .slice p n c, .slice q m d], .int .i64 er]) /\ n <= c /\ c <= 9223372036854775807 /\ m <= d /\ d <= 9223372036854775807 /\ SlI w' p zs /\ SlV w' q vs /\ Below w.heap.size w w'
theorem own_cap {w : World} {B n c : Nat} {T : TypeId} {sz : Nat} {q : Option Addr} {xs : List Value} (h : w.ownsRow B T sz (.slice q n c) n xs) : n <= c /\ c <= 9223372036854775807 := by
 rcases h.2 with ⟨hv, h0⟩ | ⟨g, cap, cur, hv, _, _, h1, h2, _⟩
 ·cases hv; omega
 ·cases hv
  unfold maxLen at h2
  exact ⟨h1, by omega⟩
theorem TRes.tu {K B F R O : Int} {zs : List Int} {vs : List (Int × Int)} {n m : Nat} {er : Int} {w : World} {e : Ending} {w' : World} (h : TRes K B F R O zs vs er w e w') (hn : zs.length = n) (hm : vs.length = m) : TU K B F R O zs vs n m er w e w' := by
 obtain ⟨p, c, q, d, he, o1, o2, hb⟩ := h
 subst hn hm
 obtain ⟨a1, a2⟩ := own_cap o1
 obtain ⟨a3, a4⟩ := own_cap o2
 exact ⟨p, c, q, d, he, a1, a2, a3, a4, SlI_of o1 rfl, SlV_of o2 rfl, hb⟩
theorem itoa1 {n : Nat} (h : n < 10) : Lib.itoa (n : Int) = [UInt8.ofNat (48 + n)] := by
 unfold Lib.itoa
 rw [if_neg (by omega), Int.toNat_natCast, Lib.decDigits_eq, Lib.nDigits_small h]
 show [Lib.dg n (1 - 1 - 0)] = _
 have : Lib.dg n 0 = UInt8.ofNat (48 + n) := by
  unfold Lib.dg
  rw [show n / 10 ^ 0 % 10 = n by rw [Nat.pow_zero, Nat.div_one]; omega]
 rw [show 1 - 1 - 0 = 0 from rfl, this]
theorem vfm1 {n : Nat} (h : n < 10) : vfm 3 0 0 0 0 (n : Int) 1 = [UInt8.ofNat (48 + n)] := by
 have hv : vv 3 0 0 0 0 (n : Int) 1 = true := by rw [vv_int]; simp; omega
 unfold vfm
 rw [if_neg (by rw [hv]; decide)]
 unfold Tx.fmv
 rw [if_neg (by rw [rat_vld hv]; decide), if_pos (show (rat 3 0 (n : Int) 1).2 = 1 from rfl)]
 exact itoa1 h
theorem ex_t : tE 3 0 0 0 0 [2, 2] [(1, 1), (2, 1), (3, 1), (4, 1)] = 0 := by decide +kernel
theorem ex_new (p : Option Addr) (c : Nat) (q : Option Addr) (d : Nat) (w : World) (hc : 2 <= c) (hc2 : c <= 9223372036854775807) (hd : 4 <= d) (hd2 : d <= 9223372036854775807) (RA : Hid (SlI w p [2, 2])) (RB : Hid (SlV w q [(1, 1), (2, 1), (3, 1), (4, 1)])) : Calls Tryz.prog 16 #[.agg #[.int .i64 3, .int .i64 0, .int .i64 0, .int .i64 0, .int .i64 0], .slice p 2 c, .slice q 4 d] w (TU 3 0 0 0 0 [2, 2] [(1, 1), (2, 1), (3, 1), (4, 1)] 2 4 0 w) :=
 (tnew 3 0 0 0 0 p [2, 2] c q [(1, 1), (2, 1), (3, 1), (4, 1)] d w (by decide) (by decide) (by decide) (by decide) RA RB).mono fun e w' h => by
  rcases h with ⟨h1, _⟩ | ⟨_, h2⟩
  ·exact absurd ex_t h1
  ·exact h2.tu rfl rfl
theorem ex_red (p : Option Addr) (c : Nat) (q : Option Addr) (d : Nat) (w : World) (hc : 2 <= c) (hc2 : c <= 9223372036854775807) (hd : 4 <= d) (hd2 : d <= 9223372036854775807) (RA : Hid (SlI w p [2, 2])) (RB : Hid (SlV w q [(1, 1), (2, 1), (3, 1), (4, 1)])) : Calls Tryz.prog 33 #[.agg #[.int .i64 3, .int .i64 0, .int .i64 0, .int .i64 0, .int .i64 0, .slice p 2 c, .slice q 4 d], .int .i64 0, .int .i64 1] w (TU 3 0 0 0 0 [2] [(4, 1), (6, 1)] 1 2 0 w) :=
 (rd_e 3 0 0 0 0 p [2, 2] c q [(1, 1), (2, 1), (3, 1), (4, 1)] d 0 1 w (by decide) (by decide) (by decide) (by decide) RA RB ex_t (by decide) hc hc2 (by decide) (by decide) 1 2 2 (by decide) (by decide) (by decide) (by decide) (by decide) (by decide) (by decide) (by decide) (by decide) (by decide) (by decide)).mono fun e w' h => by
  rcases h with ⟨h1, _⟩ | ⟨_, h2⟩
  ·exact absurd (show fe (rdE 1 3 0 0 0 0 [(1, 1), (2, 1), (3, 1), (4, 1)] 2 2) (1 * 2) 0 = 0 by decide +kernel) h1
  ·rw [show ([2, 2] : List Int).take 0 ++ ([2, 2] : List Int).drop (0 + 1) = [2] from rfl, show rdVs 1 3 0 0 0 0 [(1, 1), (2, 1), (3, 1), (4, 1)] 2 2 (1 * 2) = [(4, 1), (6, 1)] by decide +kernel] at h2
   exact h2.tu rfl rfl
theorem ex_scan (p : Option Addr) (c : Nat) (q : Option Addr) (d : Nat) (w : World) (hc : 2 <= c) (hc2 : c <= 9223372036854775807) (hd : 4 <= d) (hd2 : d <= 9223372036854775807) (RA : Hid (SlI w p [2, 2])) (RB : Hid (SlV w q [(1, 1), (2, 1), (3, 1), (4, 1)])) : Calls Tryz.prog 33 #[.agg #[.int .i64 3, .int .i64 0, .int .i64 0, .int .i64 0, .int .i64 0, .slice p 2 c, .slice q 4 d], .int .i64 1, .int .i64 5] w (TU 3 0 0 0 0 [2, 2] [(1, 1), (3, 1), (3, 1), (7, 1)] 2 4 0 w) :=
 (rd_s 3 0 0 0 0 p [2, 2] c q [(1, 1), (2, 1), (3, 1), (4, 1)] d 1 5 w (by decide) (by decide) (by decide) (by decide) RA RB ex_t (by decide) hc hc2 rfl 2 2 1 (by decide) (by decide) (by decide) (by decide) (by decide) (by decide) (by decide) (by decide) (by decide) (by decide) (by decide)).mono fun e w' h => by
  rcases h with ⟨h1, _⟩ | ⟨_, h2⟩
  ·exact absurd (show fe (snE 3 0 0 0 0 [(1, 1), (2, 1), (3, 1), (4, 1)] 2 1) (2 * 1) 0 = 0 by decide +kernel) h1
  ·rw [show scA (fop 3 0 0 0 0) [(1, 1), (2, 1), (3, 1), (4, 1)] 2 1 (2 * 2 * 1) = [(1, 1), (3, 1), (3, 1), (7, 1)] by decide +kernel] at h2
   exact h2.tu rfl rfl
theorem ex_gd : pmE [2, 2] [1, 0] = 0 := by
 unfold pmE
 rw [if_neg (by decide +kernel), if_pos]
 refine ⟨rfl, fun i hi => ?_⟩
 have hi : i < 2 := hi
 rcases (by omega : i = 0 \/ i = 1) with rfl | rfl
 ·exact ⟨by decide, by decide, fun j hj => by omega⟩
 ·refine ⟨by decide, by decide, fun j hj => ?_⟩
  obtain rfl : j = 0 := by omega
  decide
theorem ex_perm (p : Option Addr) (c : Nat) (q : Option Addr) (d : Nat) (w : World) (hc : 2 <= c) (hc2 : c <= 9223372036854775807) (hd : 4 <= d) (hd2 : d <= 9223372036854775807) (RA : Hid (SlI w p [2, 2])) (RB : Hid (SlV w q [(1, 1), (2, 1), (3, 1), (4, 1)])) (x : Option Addr) (e : Nat) (RX : Hid (SlI w x [1, 0])) : Calls Tryz.prog 37 #[.agg #[.int .i64 3, .int .i64 0, .int .i64 0, .int .i64 0, .int .i64 0, .slice p 2 c, .slice q 4 d], .slice x 2 e] w (TU 3 0 0 0 0 [2, 2] [(1, 1), (3, 1), (2, 1), (4, 1)] 2 4 0 w) :=
 (pm_c 3 0 0 0 0 p [2, 2] c q [(1, 1), (2, 1), (3, 1), (4, 1)] d x [1, 0] e w (by decide) (by decide) (by decide) (by decide) RA RB (by decide) RX ex_t ex_gd).mono fun e w' h => by
  rw [show pm [2, 2] [1, 0] = [2, 2] by decide +kernel, show pmV [2, 2] [1, 0] [(1, 1), (2, 1), (3, 1), (4, 1)] = [(1, 1), (3, 1), (2, 1), (4, 1)] by decide +kernel] at h
  exact h.tu rfl rfl
theorem ex_at2 (p : Option Addr) (c : Nat) (q : Option Addr) (d : Nat) (w : World) (hc : 2 <= c) (hc2 : c <= 9223372036854775807) (hd : 4 <= d) (hd2 : d <= 9223372036854775807) (RA : Hid (SlI w p [2, 2])) (RB : Hid (SlV w q [(1, 1), (2, 1), (3, 1), (4, 1)])) (x : Option Addr) (e : Nat) (RX : Hid (SlI w x [0, 2])) : Calls Tryz.prog 24 #[.agg #[.int .i64 3, .int .i64 0, .int .i64 0, .int .i64 0, .int .i64 0, .slice p 2 c, .slice q 4 d], .slice x 2 e] w fun e w' => e = .returned (.tuple #[.agg #[.int .i64 0, .int .i64 0], .int .i64 12]) /\ Below w.heap.size w w' := by
 have h := tat 3 0 0 0 0 p [2, 2] c q [(1, 1), (2, 1), (3, 1), (4, 1)] d w (by decide) (by decide) (by decide) (by decide) RA RB x [0, 2] e (by decide) RX
 rw [show atR 3 0 0 0 0 [2, 2] [(1, 1), (2, 1), (3, 1), (4, 1)] [0, 2] = (0, 0, 12) by decide +kernel] at h
 exact h
theorem ex_at1 (p : Option Addr) (c : Nat) (q : Option Addr) (d : Nat) (w : World) (hc : 2 <= c) (hc2 : c <= 9223372036854775807) (hd : 4 <= d) (hd2 : d <= 9223372036854775807) (RA : Hid (SlI w p [2, 2])) (RB : Hid (SlV w q [(1, 1), (2, 1), (3, 1), (4, 1)])) (x : Option Addr) (e : Nat) (RX : Hid (SlI w x [0])) : Calls Tryz.prog 24 #[.agg #[.int .i64 3, .int .i64 0, .int .i64 0, .int .i64 0, .int .i64 0, .slice p 2 c, .slice q 4 d], .slice x 1 e] w fun e w' => e = .returned (.tuple #[.agg #[.int .i64 0, .int .i64 0], .int .i64 11]) /\ Below w.heap.size w w' := by
 have h := tat 3 0 0 0 0 p [2, 2] c q [(1, 1), (2, 1), (3, 1), (4, 1)] d w (by decide) (by decide) (by decide) (by decide) RA RB x [0] e (by decide) RX
 rw [show atR 3 0 0 0 0 [2, 2] [(1, 1), (2, 1), (3, 1), (4, 1)] [0] = (0, 0, 11) by decide +kernel] at h
 exact h

theorem ex_f1_x : fmX 3 0 0 0 0 [2, 2] [(1, 1), (2, 1), (3, 1), (4, 1)] = [91, 91, 49, 44, 32, 50, 93, 44, 32, 91, 51, 44, 32, 52, 93, 93] := by
 unfold fmX
 rw [if_neg (by rw [show tE 3 0 0 0 0 [2, 2] [(1, 1), (2, 1), (3, 1), (4, 1)] = 0 by decide +kernel]; simp)]
 have v1 : vfm 3 0 0 0 0 1 1 = [49] := vfm1 (n := 1) (by decide)
 have v2 : vfm 3 0 0 0 0 2 1 = [50] := vfm1 (n := 2) (by decide)
 have v3 : vfm 3 0 0 0 0 3 1 = [51] := vfm1 (n := 3) (by decide)
 have v4 : vfm 3 0 0 0 0 4 1 = [52] := vfm1 (n := 4) (by decide)
 simp [wtx, wtj, sp, v1, v2, v3, v4]
theorem ex_f1 (p : Option Addr) (c : Nat) (q : Option Addr) (d : Nat) (w : World) (hc : 2 <= c) (hc2 : c <= 9223372036854775807) (hd : 4 <= d) (hd2 : d <= 9223372036854775807) (RA : Hid (SlI w p [2, 2])) (RB : Hid (SlV w q [(1, 1), (2, 1), (3, 1), (4, 1)])) (hL : Tx.LA w) : Calls Tryz.prog 42 #[.agg #[.int .i64 3, .int .i64 0, .int .i64 0, .int .i64 0, .int .i64 0, .slice p 2 c, .slice q 4 d]] w fun e w' => e = .returned (.string ⟨#[91, 91, 49, 44, 32, 50, 93, 44, 32, 91, 51, 44, 32, 52, 93, 93]⟩) /\ Below w.heap.size w w' := by
 have h := tfm 3 0 0 0 0 p [2, 2] c q [(1, 1), (2, 1), (3, 1), (4, 1)] d w (by decide) (by decide) (by decide) (by decide) RA RB hc hc2 hd hd2 hL
 rw [ex_f1_x] at h
 exact h

theorem ex_f2_x : fmX 3 0 0 0 0 [2] [(4, 1), (6, 1)] = [91, 52, 44, 32, 54, 93] := by
 unfold fmX
 rw [if_neg (by rw [show tE 3 0 0 0 0 [2] [(4, 1), (6, 1)] = 0 by decide +kernel]; simp)]
 have v4 : vfm 3 0 0 0 0 4 1 = [52] := vfm1 (n := 4) (by decide)
 have v6 : vfm 3 0 0 0 0 6 1 = [54] := vfm1 (n := 6) (by decide)
 simp [wtx, wtj, sp, v4, v6]
theorem ex_f2 (p : Option Addr) (c : Nat) (q : Option Addr) (d : Nat) (w : World) (hc : 1 <= c) (hc2 : c <= 9223372036854775807) (hd : 2 <= d) (hd2 : d <= 9223372036854775807) (RA : Hid (SlI w p [2])) (RB : Hid (SlV w q [(4, 1), (6, 1)])) (hL : Tx.LA w) : Calls Tryz.prog 42 #[.agg #[.int .i64 3, .int .i64 0, .int .i64 0, .int .i64 0, .int .i64 0, .slice p 1 c, .slice q 2 d]] w fun e w' => e = .returned (.string ⟨#[91, 52, 44, 32, 54, 93]⟩) /\ Below w.heap.size w w' := by
 have h := tfm 3 0 0 0 0 p [2] c q [(4, 1), (6, 1)] d w (by decide) (by decide) (by decide) (by decide) RA RB hc hc2 hd hd2 hL
 rw [ex_f2_x] at h
 exact h

theorem ex_f3_x : fmX 3 0 0 0 0 [2, 2] [(1, 1), (3, 1), (3, 1), (7, 1)] = [91, 91, 49, 44, 32, 51, 93, 44, 32, 91, 51, 44, 32, 55, 93, 93] := by
 unfold fmX
 rw [if_neg (by rw [show tE 3 0 0 0 0 [2, 2] [(1, 1), (3, 1), (3, 1), (7, 1)] = 0 by decide +kernel]; simp)]
 have v1 : vfm 3 0 0 0 0 1 1 = [49] := vfm1 (n := 1) (by decide)
 have v3 : vfm 3 0 0 0 0 3 1 = [51] := vfm1 (n := 3) (by decide)
 have v7 : vfm 3 0 0 0 0 7 1 = [55] := vfm1 (n := 7) (by decide)
 simp [wtx, wtj, sp, v1, v3, v7]
theorem ex_f3 (p : Option Addr) (c : Nat) (q : Option Addr) (d : Nat) (w : World) (hc : 2 <= c) (hc2 : c <= 9223372036854775807) (hd : 4 <= d) (hd2 : d <= 9223372036854775807) (RA : Hid (SlI w p [2, 2])) (RB : Hid (SlV w q [(1, 1), (3, 1), (3, 1), (7, 1)])) (hL : Tx.LA w) : Calls Tryz.prog 42 #[.agg #[.int .i64 3, .int .i64 0, .int .i64 0, .int .i64 0, .int .i64 0, .slice p 2 c, .slice q 4 d]] w fun e w' => e = .returned (.string ⟨#[91, 91, 49, 44, 32, 51, 93, 44, 32, 91, 51, 44, 32, 55, 93, 93]⟩) /\ Below w.heap.size w w' := by
 have h := tfm 3 0 0 0 0 p [2, 2] c q [(1, 1), (3, 1), (3, 1), (7, 1)] d w (by decide) (by decide) (by decide) (by decide) RA RB hc hc2 hd hd2 hL
 rw [ex_f3_x] at h
 exact h

theorem ex_f4_x : fmX 3 0 0 0 0 [2, 2] [(1, 1), (3, 1), (2, 1), (4, 1)] = [91, 91, 49, 44, 32, 51, 93, 44, 32, 91, 50, 44, 32, 52, 93, 93] := by
 unfold fmX
 rw [if_neg (by rw [show tE 3 0 0 0 0 [2, 2] [(1, 1), (3, 1), (2, 1), (4, 1)] = 0 by decide +kernel]; simp)]
 have v1 : vfm 3 0 0 0 0 1 1 = [49] := vfm1 (n := 1) (by decide)
 have v2 : vfm 3 0 0 0 0 2 1 = [50] := vfm1 (n := 2) (by decide)
 have v3 : vfm 3 0 0 0 0 3 1 = [51] := vfm1 (n := 3) (by decide)
 have v4 : vfm 3 0 0 0 0 4 1 = [52] := vfm1 (n := 4) (by decide)
 simp [wtx, wtj, sp, v1, v2, v3, v4]
theorem ex_f4 (p : Option Addr) (c : Nat) (q : Option Addr) (d : Nat) (w : World) (hc : 2 <= c) (hc2 : c <= 9223372036854775807) (hd : 4 <= d) (hd2 : d <= 9223372036854775807) (RA : Hid (SlI w p [2, 2])) (RB : Hid (SlV w q [(1, 1), (3, 1), (2, 1), (4, 1)])) (hL : Tx.LA w) : Calls Tryz.prog 42 #[.agg #[.int .i64 3, .int .i64 0, .int .i64 0, .int .i64 0, .int .i64 0, .slice p 2 c, .slice q 4 d]] w fun e w' => e = .returned (.string ⟨#[91, 91, 49, 44, 32, 51, 93, 44, 32, 91, 50, 44, 32, 52, 93, 93]⟩) /\ Below w.heap.size w w' := by
 have h := tfm 3 0 0 0 0 p [2, 2] c q [(1, 1), (3, 1), (2, 1), (4, 1)] d w (by decide) (by decide) (by decide) (by decide) RA RB hc hc2 hd hd2 hL
 rw [ex_f4_x] at h
 exact h
end Go.Proofs.YteaaikmejacpaaaGreatDoor.Te
