/- The search through all orders. -/
import Derived.Test.YtghnigmmkenddaaC6m
import Derived.Test.YtghnigmmkenddaaRk3
import Derived.Deep.Cut
namespace Go.Proofs.Ytghnigmmkenddaa.Ar
open Go.ChangeShapes Go.WideShapes Go.ChangeAt Go.RowKit
open Go.Proofs.Ytghnigmmkenddaa.Lv Go.Proofs.Ytghnigmmkenddaa.Nm
set_option linter.unusedVariables false
set_option linter.unusedSimpArgs false

theorem gen_post {P : Program} {c : Code} {Q : Exit → Act → World → Prop} {a : Act} {w : World} (h : ∀ Q0 : Exit → Act → World → Prop, Hid (Q0 = Q) → Code.wp P c Q0 a w) : Code.wp P c Q a w := h Q (Lib.hid rfl)
set_option maxRecDepth 100000 in
set_option maxHeartbeats 8000000 in
/-- The search through the orders that begin as the first places say. -/
theorem tryC (wz : World) (xs : List Lf) (p : Option Addr) (g ob lb bb tb n c : Nat) (A : Hid (TA wz g ob lb bb tb)) (HN : Hid (xs.length = n)) (hn : n ≤ 7) (RA : Hid (SlL wz p xs)) (HZ : Hid (∀ i, i < n → 1 ≤ (xs.getD i lf0).2.2.2 ∧ (xs.getD i lf0).2.2.2 ≤ 4096)) :
    ∀ (d fx : Nat) (ks : List Nat) (b : Int) (w : World), fx + d = n → Hid (ks.length = n ∧ ∀ k ∈ ks, k < n) → -1 ≤ b → b ≤ 245760 → Hid (TW wz p g ob lb bb tb n c w ks b) →
      Calls Try.prog 30 #[.int .i64 (fx : Int), .pointer (some ⟨ob, 0, none⟩), .pointer (some ⟨lb, 0, none⟩), .pointer (some ⟨bb, 0, none⟩), .pointer (some ⟨tb, 0, none⟩)] w fun e w' => e = .returned (.tuple #[]) ∧ ∃ b', b' ≤ 245760 ∧ Le (ffz xs) (ks.take fx) (ks.drop fx) b b' ∧ TW wz p g ob lb bb tb n c w' ks b' := by
  intro d
  induction d with
  | zero =>
    intro fx ks b w hd HK b0 b1 H
    obtain rfl : fx = n := by omega
    have h0 := H.out.co
    have h1 := H.out.cl
    have h2 := H.out.cb
    have hf := H.out.cf
    have HR : Hid (RI w g ks) := Lib.hid fun i hi => by
      have h := (H.out.row.cellAt i (by rw [HK.out.1] at hi; omega)).trans (rowE_get (kI ks) i (by rw [kI_len]; exact hi))
      rw [kI_get hi] at h
      exact h
    have FC := Lib.hid (firstFit p xs c fx g ks w HN (by omega) (Lib.hid (fun i hi => by
      obtain ⟨b', o', e, c0, c1, c2, c3⟩ := RA.out i hi
      have hb' : b' < wz.heap.size := cl_lt c0
      exact ⟨b', o', e, kpb H.out.bel hb' c0, kpb H.out.bel hb' c1, kpb H.out.bel hb' c2, kpb H.out.bel hb' c3⟩)) HZ HK HR (Lib.hid (.inr (H.out.row.lt g rfl).2)))
    have FB := Lib.hid (ffG_bd xs (fun i hi => HZ.out i (by rw [← HN.out]; exact hi)) ks [] (List.replicate fx st0) 0 0 (fun k hk => by rw [HN.out]; exact HK.out.2 k hk) (rep_bd _) (Int.le_refl _) (Int.le_refl _) (Int.le_refl _))
    obtain ⟨Z, hZ⟩ : ∃ Z, (ffG xs [] ks (List.replicate fx st0) 0).2 = Z := ⟨_, rfl⟩
    have HZF : Hid (ffz xs ks = Z) := Lib.hid (by unfold ffz; rw [HN.out]; exact hZ)
    have z0 : 0 ≤ Z := by have h := FB.out.1; rw [hZ] at h; exact h
    have z1 : Z ≤ 245760 := by have h := FB.out.2.1; rw [hZ, HK.out.1] at h; omega
    rw [hZ] at FC
    have HD : Hid (ks.take fx = ks ∧ ks.drop fx = []) := Lib.hid ⟨List.take_of_length_le (by rw [HK.out.1]; exact Nat.le_refl _), List.drop_of_length_le (by rw [HK.out.1]; exact Nat.le_refl _)⟩
    have HL := Lib.hid (Le.one (ffz_nonneg xs) (pre := ks) (b := b))
    rw [HZF.out] at HL
    rw [HD.out.1, HD.out.2]
    clear hZ FB
    have ARMS : True := trivial
    by_cases k1 : b < 0
    · have HL2 : Hid (Le (ffz xs) ks [] b Z) := Lib.hid (by have h := HL.out; rw [if_pos (.inl k1)] at h; exact h)
      go_enter Try.func30, Try.ntmps30
      go_wp2_with (go_at_call 20; (with_reducible refine FC.out.mono ?_); rintro e w1 ⟨v, rfl, B1, O1⟩; have H1 := Lib.hid (H.out.below B1); have h3 := H1.out.cb; have h4 := H1.out.cf; clear B1 O1 h0 h1 h2 hf)
      refine bodyPost_ret (results_none rfl _ _ _) rfl ?_
      exact ⟨rfl, Z, z1, HL2.out, H1.out.best A.out⟩
    · by_cases k2 : Z < b
      · have HL2 : Hid (Le (ffz xs) ks [] b Z) := Lib.hid (by have h := HL.out; rw [if_pos (.inr k2)] at h; exact h)
        go_enter Try.func30, Try.ntmps30
        go_wp2_with (go_at_call 20; (with_reducible refine FC.out.mono ?_); rintro e w1 ⟨v, rfl, B1, O1⟩; have H1 := Lib.hid (H.out.below B1); have h3 := H1.out.cb; have h4 := H1.out.cf; clear B1 O1 h0 h1 h2 hf)
        refine bodyPost_ret (results_none rfl _ _ _) rfl ?_
        exact ⟨rfl, Z, z1, HL2.out, H1.out.best A.out⟩
      · have HL2 : Hid (Le (ffz xs) ks [] b b) := Lib.hid (by have h := HL.out; rw [if_neg (by omega)] at h; exact h)
        go_enter Try.func30, Try.ntmps30
        go_wp2_with (go_at_call 20; (with_reducible refine FC.out.mono ?_); rintro e w1 ⟨v, rfl, B1, O1⟩; have H1 := Lib.hid (H.out.below B1); have h3 := H1.out.cb; have h4 := H1.out.cf; clear B1 O1 h0 h1 h2 hf)
        refine bodyPost_ret (results_none rfl _ _ _) rfl ?_
        exact ⟨rfl, b, b1, HL2.out, H1.out⟩
  | succ d ih =>
    intro fx ks b w hd HK b0 b1 H
    have IH := Lib.hid ih
    clear ih
    have h0 := H.out.co
    have e0 : ((fx : Int) == (n : Int)) = false := by rw [beq_eq_false_iff_ne]; omega
    go_enter Try.func30, Try.ntmps30
    go_wp2_with fail
    go_loopw [8] (fun iv wr => ∃ (i : Nat) (b' : Int), iv = .int .i64 (i : Int) ∧ fx ≤ i ∧ i ≤ n ∧ -1 ≤ b' ∧ b' ≤ 245760 ∧ Hid (LeK (ffz xs) (ks.take fx) (ks.drop fx) (i - fx) b b') ∧ Hid (TW wz p g ob lb bb tb n c wr ks b')) (fun iv _ => n - (intOf iv).toNat)
    case atStart => exact ⟨fx, b, rfl, Nat.le_refl _, by omega, b0, b1, Lib.hid (by rw [Nat.sub_self]; exact LeK.start _ _ _ _), H⟩
    case round =>
      clear h0 b0 b1
      obtain ⟨i, b', rfl, hfi, hin, b0, b1, HL, H1⟩ := hrel
      obtain ⟨w1, hw1⟩ : ∃ w1, w1 = wr := ⟨_, rfl⟩
      subst hw1
      have h0 := H1.out.co
      by_cases hlt : i < n
      case neg =>
        obtain rfl : i = n := by omega
        have i1 : ¬ (i : Int) < i := by omega
        have HF : Hid (Le (ffz xs) (ks.take fx) (ks.drop fx) b b') := Lib.hid (LeK.all (by intro e; have := congrArg List.length e; simp [HK.out.1] at this; omega) (by have h := HL.out; rw [List.length_drop, HK.out.1]; exact h))
        go_wp2_with fail
        go_end0
        exact ⟨rfl, b', b1, HF.out, H1.out⟩
      have i1 : (i : Int) < n := by omega
      have hfn : fx < n := by omega
      have cf := (H1.out.row.cellAt fx (by omega)).trans (rowE_get (kI ks) fx (by rw [kI_len, HK.out.1]; exact hfn))
      have ci := (H1.out.row.cellAt i (by omega)).trans (rowE_get (kI ks) i (by rw [kI_len, HK.out.1]; exact hlt))
      rw [kI_get (by rw [HK.out.1]; exact hfn)] at cf
      rw [kI_get (by rw [HK.out.1]; exact hlt)] at ci
      have ff := H1.out.row.frozenAt fx
      have fi := H1.out.row.frozenAt i
      have H2 := Lib.hid (H1.out.swap A.out HK.out.1 hfn hlt)
      have hA1 := A.out.og
      have hA2 : ¬ g = ob := fun e => hA1 e.symm
      have f0 : (0 : Int) ≤ fx := by omega
      have f1 : (fx : Int) < n := by omega
      have i0' : (0 : Int) ≤ i := by omega
      obtain ⟨x, hx⟩ : ∃ x, ks.getD fx 0 = x := ⟨_, rfl⟩
      obtain ⟨y, hy⟩ : ∃ y, ks.getD i 0 = y := ⟨_, rfl⟩
      have HX := Lib.hid hx
      have HY := Lib.hid hy
      rw [hx] at cf H2
      rw [hy] at ci H2
      have ST := (H1.out.row.stored fx (.int .i64 y)).1
      rw [rowE_set] at ST
      have ci2 := (ST.cellAt i (by omega)).trans (rowE_get _ i (by rw [List.length_set, kI_len, HK.out.1]; exact hlt))
      have fi2 := ST.frozenAt i
      obtain ⟨vv, hvv⟩ : ∃ vv, ((kI ks).set fx y).getD i e50 = vv := ⟨_, rfl⟩
      rw [hvv] at ci2
      clear hx hy hvv ST
      go_wp2_with fail
      go_region
      obtain ⟨w2, hw2⟩ : ∃ w2, w2 = ((w1.setCell ⟨g, fx, none⟩ (.int .i64 (y : Nat))).setCell ⟨g, i, none⟩ (.int .i64 (x : Nat))).drew := ⟨_, rfl⟩
      rw [← hw2]
      have H3 : Hid (TW wz p g ob lb bb tb n c w2 (swN ks fx i) b') := Lib.hid (by rw [hw2]; exact H2.out.below (Below.refl _ _).drew)
      clear hw2 H2 cf ci ff fi ci2 fi2 h0
      have HP := Lib.hid (swN_parts (ks := ks) (f := fx) (i := i) hfi (by rw [HK.out.1]; exact hlt))
      have HK2 : Hid ((swN ks fx i).length = n ∧ ∀ k ∈ swN ks fx i, k < n) := Lib.hid ⟨by rw [swN_len]; exact HK.out.1, fun k hk => by
        unfold swN at hk
        rcases List.mem_or_eq_of_mem_set hk with h | rfl
        · rcases List.mem_or_eq_of_mem_set h with h | rfl
          · exact HK.out.2 k h
          · exact HK.out.2 _ (getD_mem0 (by rw [HK.out.1]; exact hlt))
        · exact HK.out.2 _ (getD_mem0 (by rw [HK.out.1]; exact hfn))⟩
      have HC := Lib.hid (IH.out (fx + 1) (swN ks fx i) b' w2 (by omega) HK2 b0 b1 H3)
      rw [show ((fx + 1 : Nat) : Int) = (fx : Int) + 1 by omega] at HC
      have h4 := H3.out.ct
      go_upto_region 9 with (go_at_call 30; (with_reducible refine HC.out.mono ?_); rintro e w3 ⟨rfl, b2, hb2, hle, H4⟩; have HLE := Lib.hid hle; have H5 := Lib.hid H4; clear hle H4)
      have hb0 : -1 ≤ b2 := by
        have h := HLE.out.1 _ (List.Perm.refl _)
        omega
      have HLN : Hid (LeK (ffz xs) (ks.take fx) (ks.drop fx) (i + 1 - fx) b b2) := Lib.hid (by
        have h := HLE.out
        rw [HP.out.2.1] at h
        have h2 := LeK.next (ffz_nonneg xs) HL.out HP.out.1 HP.out.2.2 h
        rw [show i + 1 - fx = i - fx + 1 by omega]
        exact h2)
      have h0 := H5.out.co
      have hl2 := HK2.out.1
      have cf := (H5.out.row.cellAt fx (by omega)).trans (rowE_get (kI (swN ks fx i)) fx (by rw [kI_len, hl2]; exact hfn))
      have ci := (H5.out.row.cellAt i (by omega)).trans (rowE_get (kI (swN ks fx i)) i (by rw [kI_len, hl2]; exact hlt))
      rw [kI_get (by rw [hl2]; exact hfn)] at cf
      rw [kI_get (by rw [hl2]; exact hlt)] at ci
      have ff := H5.out.row.frozenAt fx
      have fi := H5.out.row.frozenAt i
      have H6 := Lib.hid (H5.out.swap A.out hl2 hfn hlt)
      have HBK := Lib.hid (swN_back (ks := ks) (i := fx) (j := i) (by rw [HK.out.1]; exact hfn) (by rw [HK.out.1]; exact hlt))
      rw [HBK.out] at H6
      obtain ⟨x2, hx2⟩ : ∃ x2, (swN ks fx i).getD fx 0 = x2 := ⟨_, rfl⟩
      obtain ⟨y2, hy2⟩ : ∃ y2, (swN ks fx i).getD i 0 = y2 := ⟨_, rfl⟩
      rw [hx2] at cf H6
      rw [hy2] at ci H6
      have ST := (H5.out.row.stored fx (.int .i64 y2)).1
      rw [rowE_set] at ST
      have ci2 := (ST.cellAt i (by omega)).trans (rowE_get _ i (by rw [List.length_set, kI_len, hl2]; exact hlt))
      have fi2 := ST.frozenAt i
      obtain ⟨vv2, hvv2⟩ : ∃ vv, ((kI (swN ks fx i)).set fx y2).getD i e50 = vv := ⟨_, rfl⟩
      rw [hvv2] at ci2
      clear hx2 hy2 hvv2 ST hl2 h4
      have hz9 : w3.drew.cell? ⟨ob, 0, none⟩ = some (.slice (some ⟨g, 0, none⟩) n n) ∧ w3.drew.cell? ⟨g, i, none⟩ = some (.int .i64 (y2 : Nat)) ∧ w3.drew.cell? ⟨g, fx, none⟩ = some (.int .i64 (x2 : Nat)) ∧ Below w3.heap.size w3 w3.drew := ⟨h0, ci, cf, (Below.refl _ _).drew⟩
      have h0b : (w3.setCell ⟨g, fx, none⟩ (.int .i64 (y2 : Nat))).cell? ⟨ob, 0, none⟩ = some (.slice (some ⟨g, 0, none⟩) n n) := by rw [World.cell?_setCell_far _ _ _ _ hA2]; exact h0
      have H6d : Hid (TW wz p g ob lb bb tb n c ((w3.setCell ⟨g, fx, none⟩ (.int .i64 (y2 : Nat))).setCell ⟨g, i, none⟩ (.int .i64 (x2 : Nat))).drew ks b2) := Lib.hid (H6.out.below (Below.refl _ _).drew)
      refine Rk.begin (S := fun wS => wS.cell? ⟨ob, 0, none⟩ = some (.slice (some ⟨g, 0, none⟩) n n) ∧ wS.cell? ⟨g, i, none⟩ = some (.int .i64 (y2 : Nat)) ∧ wS.cell? ⟨g, fx, none⟩ = some (.int .i64 (x2 : Nat)) ∧ Below w3.heap.size w3 wS) 13 (by kernel_rfl) hz9 (fun hHeld => ?_)
      refine Rk.take [12, 13] (i := 0) (v := ?_) rfl (by kernel_rfl) (by kernel_rfl) (by kernel_rfl) (by kernel_rfl) (by kernel_rfl) (fun _ _ _ h => h) (Or.inl ⟨by kernel_rfl, ?_⟩) (by assumption) ?_
      rotate_left
      · ((intro w hSw; (try dsimp only at hSw); go_simp) <;> with_reducible rfl)
      try simp only [Act.put, List.setIfInBounds_toArray, List.set_cons_zero, List.set_cons_succ]
      refine Rk.takeP (i := 1) (v := ?_) rfl (by kernel_rfl) (by kernel_rfl) (by kernel_rfl) (by kernel_rfl) (fun _ _ _ h => h) (Or.inl ⟨by kernel_rfl, ?_⟩) (by assumption) ?_
      rotate_left
      · ((intro w hSw; go_simp) <;> with_reducible rfl)
      try simp only [Act.put, List.setIfInBounds_toArray, List.set_cons_zero, List.set_cons_succ]
      refine Rk.takeP (i := 3) (v := ?_) rfl (by kernel_rfl) (by kernel_rfl) (by kernel_rfl) (by kernel_rfl) (fun _ _ _ h => h) (Or.inl ⟨by kernel_rfl, ?_⟩) (by assumption) ?_
      rotate_left
      · ((intro w hSw; go_simp) <;> with_reducible rfl)
      try simp only [Act.put, List.setIfInBounds_toArray, List.set_cons_zero, List.set_cons_succ]
      refine Rk.take [6, 7, 13] (i := 4) (v := ?_) rfl (by kernel_rfl) (by kernel_rfl) (by kernel_rfl) (by kernel_rfl) (by kernel_rfl) (fun _ _ _ h => h) (Or.inl ⟨by kernel_rfl, ?_⟩) (by assumption) ?_
      rotate_left
      · ((intro w hSw; (try dsimp only at hSw); go_simp) <;> with_reducible rfl)
      try simp only [Act.put, List.setIfInBounds_toArray, List.set_cons_zero, List.set_cons_succ]
      refine Rk.takeP (i := 5) (v := ?_) rfl (by kernel_rfl) (by kernel_rfl) (by kernel_rfl) (by kernel_rfl) (fun _ _ _ h => h) (Or.inl ⟨by kernel_rfl, ?_⟩) (by assumption) ?_
      rotate_left
      · ((intro w hSw; go_simp) <;> with_reducible rfl)
      try simp only [Act.put, List.setIfInBounds_toArray, List.set_cons_zero, List.set_cons_succ]
      refine Rk.takeP (i := 6) (v := ?_) rfl (by kernel_rfl) (by kernel_rfl) (by kernel_rfl) (by kernel_rfl) (fun _ _ _ h => h) (Or.inl ⟨by kernel_rfl, ?_⟩) (by assumption) ?_
      rotate_left
      · ((intro w hSw; go_simp) <;> with_reducible rfl)
      try simp only [Act.put, List.setIfInBounds_toArray, List.set_cons_zero, List.set_cons_succ]
      refine Rk.take [13] (i := 7) (v := ?_) rfl (by kernel_rfl) (by kernel_rfl) (by kernel_rfl) (by kernel_rfl) (by kernel_rfl) (fun _ _ _ h => h) (Or.inl ⟨by kernel_rfl, ?_⟩) (by assumption) ?_
      rotate_left
      · ((intro w hSw; (try dsimp only at hSw); go_simp) <;> with_reducible rfl)
      try simp only [Act.put, List.setIfInBounds_toArray, List.set_cons_zero, List.set_cons_succ]
      refine Rk.take [10, 11, 13] (i := 8) (v := ?_) rfl (by kernel_rfl) (by kernel_rfl) (by kernel_rfl) (by kernel_rfl) (by kernel_rfl) (fun _ _ _ h => h) (Or.inl ⟨by kernel_rfl, ?_⟩) (by assumption) ?_
      rotate_left
      · ((intro w hSw; (try dsimp only at hSw); go_simp) <;> with_reducible rfl)
      try simp only [Act.put, List.setIfInBounds_toArray, List.set_cons_zero, List.set_cons_succ]
      refine Rk.takeP (i := 9) (v := ?_) rfl (by kernel_rfl) (by kernel_rfl) (by kernel_rfl) (by kernel_rfl) (fun _ _ _ h => h) (Or.inl ⟨by kernel_rfl, ?_⟩) (by assumption) ?_
      rotate_left
      · ((intro w hSw; go_simp) <;> with_reducible rfl)
      try simp only [Act.put, List.setIfInBounds_toArray, List.set_cons_zero, List.set_cons_succ]
      refine Rk.takeP (i := 10) (v := ?_) rfl (by kernel_rfl) (by kernel_rfl) (by kernel_rfl) (by kernel_rfl) (fun _ _ _ h => h) (Or.inl ⟨by kernel_rfl, ?_⟩) (by assumption) ?_
      rotate_left
      · ((intro w hSw; go_simp) <;> with_reducible rfl)
      try simp only [Act.put, List.setIfInBounds_toArray, List.set_cons_zero, List.set_cons_succ]
      refine Rk.take [13] (i := 11) (v := ?_) rfl (by kernel_rfl) (by kernel_rfl) (by kernel_rfl) (by kernel_rfl) (by kernel_rfl) (fun _ _ _ h => h) (Or.inl ⟨by kernel_rfl, ?_⟩) (by assumption) ?_
      rotate_left
      · ((intro w hSw; (try dsimp only at hSw); go_simp) <;> with_reducible rfl)
      try simp only [Act.put, List.setIfInBounds_toArray, List.set_cons_zero, List.set_cons_succ]
      refine Rk.takeP (i := 12) (v := ?_) rfl (by kernel_rfl) (by kernel_rfl) (by kernel_rfl) (by kernel_rfl) (fun _ _ _ h => h) (Or.inl ⟨by kernel_rfl, ?_⟩) (by assumption) ?_
      rotate_left
      · ((intro w hSw; go_simp) <;> with_reducible rfl)
      try simp only [Act.put, List.setIfInBounds_toArray, List.set_cons_zero, List.set_cons_succ]
      refine Rk.twoK (i := 2) (j := 13) (by kernel_rfl) (by kernel_rfl) rfl rfl (fun KK hK => ?_) (fun KK hK => ?_)
      · rw [if_pos (by kernel_rfl)]
        obtain ⟨r0, r1, r2, r3⟩ := hHeld
        go_simp
        refine hK.out _ _ ⟨r0, r1, r2, r3⟩ (fun _ => ?_)
        clear hK KK
        refine Rk.tail [13, 14, 15] [_, _, _] (by kernel_rfl) (by kernel_rfl) rfl (by decide) ?_
        go_wp2_with fail
        go_roundw
        case rel => exact ⟨i + 1, b2, by go_num, by omega, by omega, hb0, hb2, HLN, H6d⟩
        case measure => simp [intOf]; omega
      · rw [if_pos (by kernel_rfl)]
        obtain ⟨r0, r1, r2, r3⟩ := hHeld
        go_simp
        refine hK.out _ _ ?_
        clear hK KK
        refine Rk.more [2, 14, 15] [_, _, _] (by kernel_rfl) (by kernel_rfl) rfl (by decide) ?_
        go_wp2_with fail
        go_roundw
        case rel => exact ⟨i + 1, b2, by go_num, by omega, by omega, hb0, hb2, HLN, H6d⟩
        case measure => simp [intOf]; omega
end Go.Proofs.Ytghnigmmkenddaa.Ar
