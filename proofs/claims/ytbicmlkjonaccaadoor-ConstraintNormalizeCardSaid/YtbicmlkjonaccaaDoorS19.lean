/- Normalize: the groups. -/
import Derived.Test.YtbicmlkjonaccaaDoorK12

namespace Go.Proofs.YtbicmlkjonaccaaDoor.Ln
open Go.ChangeShapes Go.WideShapes Go.ChangeAt Go.RowKit
open Go.Proofs.YtbicmlkjonaccaaDoor.Nm
set_option linter.unusedVariables false
set_option linter.unusedSimpArgs false
set_option maxRecDepth 8000

set_option maxRecDepth 100000 in
set_option maxHeartbeats 16000000 in
theorem nz_main (p : Option Addr) (l : List Qm) (c : Nat) (w : World) (hl : l.length <= 256) (he : (firF l 0).2 = 0) (hp : l.all posF = true) (RA : Hid (SlQ w p l)) (HTS : Hid (∀ t ∈ l.filterMap keepF, t.2.1.length <= maxLen))
  (T : Hid (∀ f ∈ l, ∀ p c w', SlM w' p f.2.1 -> Calls Tryd.prog 28 #[Cv f.1 p f.2.1.length c f.2.2] w' (TR (tgQ f) w'))) : Calls Tryd.prog 36 #[.slice p l.length c] w (NZ l w) := by
 have F0 := firG p l c w (by omega) RA T
 have SO := Lib.hid fun (q : Option Addr) (cap n : Nat) (L0 : List E5) (w1 : World) hn hL hO HS hbw => sortV q cap (w.heap.size + 2) n L0 (l.filterMap keepF) w1 hn hL hO HS HTS hbw
 have NG := Lib.hid fun (T' : List Qm) (n : Nat) hn P S => nz_grp (l := l) (T' := T') (n := n) hl he hp hn P S
 have hfl : (l.filterMap keepF).length <= 256 := Nat.le_trans (List.length_filterMap_le _ _) hl
 have HFL := Lib.hid hfl
 obtain ⟨ts, hts⟩ : ∃ ts, l.filterMap keepF = ts := ⟨_, rfl⟩
 have h2 : ¬ (256 : Int) < l.length := by omega
 obtain ⟨j0, hj0⟩ : ∃ j0, (firF l 0).1 = j0 := ⟨_, rfl⟩
 rw [he, hp, hj0, hts] at F0
 rw [hts] at SO HTS NG HFL
 have F := Lib.hid F0
 clear F0 hj0 he hp hts hfl RA T
 go_enter Tryd.func36, Tryd.ntmps36
 go_wp2_with (go_at_call 56; (with_reducible refine F.out.mono ?_); rintro e w1 ⟨rfl, B1, hF⟩; obtain ⟨qs, cap, L, h0, h1, hO, hS⟩ := hF rfl; have HF0 := Lib.hid (And.intro h0 (And.intro hO hS)); have b0 := cell_of_one h0; have b1 := cell_of_one h1; clear hF h0 h1 hO hS)
 obtain ⟨n, hn⟩ : ∃ n, L.length = n := ⟨_, rfl⟩
 have HL := Lib.hid hn
 have hn2 : n <= 256 := by rw [<- hn, HF0.out.2.2.1]; exact HFL.out
 rw [hn] at HF0 ⊢
 clear hn
 have lw1 : w.heap.size + 1 < w1.heap.size := World.block_lt_of_cell? _ _ b1
 have lB1 := B1.size
 refine (SO.out qs cap n L w1 (by omega) HL (Lib.hid HF0.out.2.1) (Lib.hid HF0.out.2.2) (by omega)).mono ?_
 rintro e w2 ⟨rfl, B2, K2, L', T', hl', hS', hP, hSr, hO'⟩
 have HTL : Hid (∀ t ∈ T', t.2.1.length <= maxLen) := Lib.hid fun t ht => HTS.out t (hP.mem_iff.1 ht)
 have hTn : T'.length = n := by rw [<- hS'.1]; exact hl'
 have NGT := NG.out T' n (by omega) hP hSr
 obtain ⟨G, hG⟩ : ∃ G, grpQ n T' = G := ⟨_, rfl⟩
 rw [hG] at NGT
 have HNO := Lib.hid NGT.1
 have HYES := Lib.hid NGT.2
 have HGG : Hid (∃ fu, n <= fu /\ (grpQ fu (T'.drop 0)).map (([] : List Qm) ++ ·) = G) := Lib.hid ⟨n, Nat.le_refl _, by rw [List.drop_zero, hG]; cases G <;> rfl⟩
 obtain ⟨b2, hb2⟩ : ∃ b2, w2.heap.size = b2 := ⟨_, rfl⟩
 have lw2 := B2.size
 have hwb : w.heap.size < b2 := by omega
 have hwb2 : w.heap.size + 2 <= b2 := by omega
 have HM2 := Lib.hid ((B2.block _ (by omega)).trans HF0.out.1)
 have HLL := Lib.hid hl'
 have HTN := Lib.hid hTn
 have HOW2 := Lib.hid hO'
 have HST2 := Lib.hid hS'
 have HBW2 := Lib.hid (B1.trans (B2.mono (by omega)))
 have hg : ∃ g, 0 < n -> qs = some ⟨g, 0, none⟩ /\ g < b2 := by
  rcases hO'.2 with ⟨hv, h0⟩ | ⟨g, cap', cur, hv, hb, hh, r⟩
  ·exact ⟨0, fun h => by omega⟩
  ·cases hv
   exact ⟨g, fun _ => ⟨rfl, by rw [<- hb2]; exact hlt_of hh⟩⟩
 obtain ⟨g, hg⟩ := hg
 have HGQ := Lib.hid hg
 have t0 := cell_of_one HM2.out
 have hcp : n <= cap := by
  rcases hO'.2 with ⟨hv, h0⟩ | ⟨g, cap', cur, hv, hb, hh, hn, r⟩
  ·cases hv; omega
  ·cases hv; exact hn
 clear b0 b1 HF0 hO' hS' hP hSr hg hG NGT NG SO F HTS HL hl' hTn K2 B1 B2 lw1 lB1 HFL
 go_wp2_with fail
 go_loopw [9] (fun kvv wr => ∃ (i r : Nat) (A : Option Addr) (cp : Nat) (kq : Option Addr) (kc : Nat) (KL : List E5) (KT : List Qm), kvv = .slice kq KL.length kc /\ i + r = n /\ r <= cp /\ KL.length <= i /\ b2 <= wr.heap.size /\ Hid (0 < r -> A = some ⟨g, i * 3, none⟩) /\ Hid (wr.heap[w.heap.size]? = some (.cells #[.slice A r cp] 30 (0, 0))) /\ Hid (wr.ownsRow (w.heap.size + 2) 36 3 (.slice qs n cap) n (rowE L')) /\ Hid (StdL wr L' T') /\ Hid (wr.ownsRow b2 36 3 (.slice kq KL.length kc) KL.length (rowE KL)) /\ Hid (StdL wr KL KT) /\ Hid (∃ fu, r <= fu /\ (grpQ fu (T'.drop i)).map (KT ++ ·) = G) /\ Hid (Below w.heap.size w wr)) (fun _ wr => lenAt wr w.heap.size)
 case atStart => exact ⟨0, n, qs, cap, none, 0, [], [], rfl, by omega, hcp, Nat.le_refl _, by omega, Lib.hid fun h => (HGQ.out h).1, HM2, HOW2, HST2, Lib.hid (World.ownsRow_nil _ _ _ _), Lib.hid ⟨rfl, fun i hi => absurd hi (Nat.not_lt_zero _)⟩, HGG, HBW2⟩
 case round =>
  clear HM2 HOW2 HST2 HGG HBW2 t0 hcp lw2
  obtain ⟨i, r, A, cp, kq, kc, KL, KT, rfl, hir, hcp, hKL, hbw, hA, HM, HOW, HST, HOK, HSK, hGf, HBW⟩ := hrel
  obtain ⟨wz, rfl⟩ : ∃ wz, wz = wr := ⟨_, rfl⟩
  have t0 := cell_of_one HM.out
  by_cases hr : 0 < r
  ·obtain rfl := hA.out hr
   obtain ⟨rfl, hgb⟩ := HGQ.out (by omega)
   have r1 : (0 : Int) < r := by omega
   obtain ⟨fu, hfu, hGR⟩ := hGf.out
   have HGR := Lib.hid hGR
   have hdl : (T'.drop i).length = r := by rw [List.length_drop, HTN.out]; omega
   obtain ⟨f1, f2, f3, f4, f5⟩ := mny_facts (ts := T'.drop i) (by rw [hdl]; exact hr)
   obtain ⟨kf, hkf0, hGE⟩ := f5 fu (by rw [hdl]; exact hfu)
   have gd : ∀ m, (T'.drop i).getD m q0m = T'.getD (i + m) q0m := fun m => by rw [List.getD_eq_getElem?_getD, List.getElem?_drop, <- List.getD_eq_getElem?_getD]
   obtain ⟨mm, hmm⟩ : ∃ mm, mnyQ (T'.drop i) = mm := ⟨_, rfl⟩
   rw [hmm] at f1 f2 f3 f4 hGE
   rw [hdl] at f2 f4
   rw [List.drop_drop] at hGE
   have HGE := Lib.hid hGE
   have hm1 : 1 <= mm := f1
   have hmr : mm <= r := f2
   have hkf : n - (i + mm) <= kf := by omega
   have HLG : Hid (((L'.drop i).take mm).length = mm) := Lib.hid (by rw [List.length_take, List.length_drop, HLL.out]; omega)
   have HSM : Hid (∀ m, 1 <= m -> m <= mm -> m < r -> ((T'.getD (i + m) q0m).2.1 = (T'.getD i q0m).2.1 -> m + 1 <= mm) /\ (¬ (T'.getD (i + m) q0m).2.1 = (T'.getD i q0m).2.1 -> m = mm)) := Lib.hid fun m h1 h2 h3 => by
    have e0 := gd 0
    rw [Nat.add_zero] at e0
    refine ⟨fun h => ?_, fun h => ?_⟩
    ·rcases Nat.lt_or_eq_of_le h2 with h4 | h4
     ·exact h4
     ·have h5 := f4 (by omega)
      rw [gd, e0, <- h4] at h5
      exact absurd h h5
    ·rcases Nat.lt_or_eq_of_le h2 with h4 | h4
     ·have h5 := f3 m h1 h4
      rw [gd, e0] at h5
      exact absurd h5 h
     ·exact h4
   clear hGR hGE f1 f2 f3 f4 f5 gd hmm hdl hGf hA hkf0 hfu
   go_wp2_with fail

   go_loopw [10] (fun mv wr2 => ∃ m : Nat, mv = .int .i64 (m : Int) /\ 1 <= m /\ m <= mm /\ Hid (Below wz.heap.size wz wr2)) (fun mv _ => r - (intOf mv).toNat)
   case atStart => exact ⟨1, rfl, Nat.le_refl _, hm1, Lib.hid (Below.refl _ _)⟩
   case round =>
    obtain ⟨m, rfl, h1m, hmm2, KX⟩ := hrel
    have m0 : (0 : Int) <= m := by omega
    by_cases hlt : m < r
    ·have HT := Lib.hid ((KX.out.block _ (lt_of_block HM.out)).trans HM.out)
     have OW := Lib.hid (own_belowE HOW.out KX.out)
     have ST := Lib.hid (HST.out.on (K59.below KX.out))
     have t0 := cell_of_one HT.out
     have m1 : (m : Int) < r := by omega
     have m2 : decide ((m : Int) < r) = true := by rw [decide_eq_true_eq]; exact m1
     have hi1 : i + m < L'.length := by rw [HLL.out]; omega
     have hi0 : i < L'.length := by omega
     obtain ⟨_, a1, _⟩ := rowE_get L' (i + m) hi1
     obtain ⟨_, b1, _⟩ := rowE_get L' i hi0
     replace a1 := (OW.out.cellAt ((i + m) * 3 + 1) (by omega)).trans a1
     replace b1 := (OW.out.cellAt (i * 3 + 1) (by omega)).trans b1
     rw [show (i + m) * 3 + 1 = i * 3 + m * 3 + 1 by omega] at a1
     obtain ⟨_, s1, _, s2⟩ := ST.out.2 (i + m) (by rw [<- ST.out.1]; exact hi1)
     obtain ⟨_, r1, _, r2⟩ := ST.out.2 i (by rw [<- ST.out.1]; exact hi0)
     have hx1 := HTL.out _ (tmem (by rw [<- ST.out.1]; exact hi1))
     have hy1 := HTL.out _ (tmem (by rw [<- ST.out.1]; exact hi0))
     have hsm := HSM.out m h1m hmm2 hlt
     obtain ⟨xs, hxs⟩ : ∃ xs, (T'.getD (i + m) q0m).2.1 = xs := ⟨_, rfl⟩
     obtain ⟨ys, hys⟩ : ∃ ys, (T'.getD i q0m).2.1 = ys := ⟨_, rfl⟩
     rw [hxs] at s1 s2 hx1 hsm
     rw [hys] at r1 r2 hy1 hsm
     rw [s1] at a1
     rw [r1] at b1
     obtain ⟨qm, hqm⟩ : ∃ qm, (L'.getD (i + m) e50).2.1 = qm := ⟨_, rfl⟩
     obtain ⟨dm, hdm⟩ : ∃ dm, (L'.getD (i + m) e50).2.2.2.1 = dm := ⟨_, rfl⟩
     obtain ⟨q0, hq0⟩ : ∃ q0, (L'.getD i e50).2.1 = q0 := ⟨_, rfl⟩
     obtain ⟨d0, hd0⟩ : ∃ d0, (L'.getD i e50).2.2.2.1 = d0 := ⟨_, rfl⟩
     rw [hqm, hdm] at a1
     rw [hq0, hd0] at b1
     rw [hqm] at s2
     rw [hq0] at r2
     have SMX := Lib.hid s2.1
     have SMY := Lib.hid r2.1
     have EQ0 := fun w h0 h1 => eqF qm q0 xs ys dm d0 w hx1 hy1 h0 h1
     obtain ⟨qb, hqb⟩ : ∃ qb, decide (lc xs ys = 0) = qb := ⟨_, rfl⟩
     rw [hqb] at EQ0
     have EQ := Lib.hid EQ0
     have HSMM := Lib.hid hsm
     have HQB := Lib.hid hqb
     clear EQ0 s1 s2 r1 r2 hx1 hy1 hxs hys hqm hdm hq0 hd0 hqb hsm hi1 hi0
     have HS : Hid (∀ u u' : World, (u.cell? ⟨w.heap.size, 0, none⟩ = some (.slice (some ⟨g, i * 3, none⟩) r cp) /\ u.cell? ⟨g, i * 3 + m * 3 + 1, none⟩ = some (.slice qm xs.length dm) /\ u.cell? ⟨g, i * 3 + 1, none⟩ = some (.slice q0 ys.length d0) /\ Below wr.heap.size wr u) -> Below u.heap.size u u' -> (u'.cell? ⟨w.heap.size, 0, none⟩ = some (.slice (some ⟨g, i * 3, none⟩) r cp) /\ u'.cell? ⟨g, i * 3 + m * 3 + 1, none⟩ = some (.slice qm xs.length dm) /\ u'.cell? ⟨g, i * 3 + 1, none⟩ = some (.slice q0 ys.length d0) /\ Below wr.heap.size wr u')) := Lib.hid (fun u u' h hb => ⟨Rg.keep hb (World.block_lt_of_cell? _ _ h.1) h.1, Rg.keep hb (World.block_lt_of_cell? _ _ h.2.1) h.2.1, Rg.keep hb (World.block_lt_of_cell? _ _ h.2.2.1) h.2.2.1, h.2.2.2.trans (hb.mono h.2.2.2.size)⟩)
     cases qb with
     | true =>
      have hnext : m + 1 <= mm := by
       have h2 := (lc_zero _ _).1 (of_decide_eq_true HQB.out)
       exact HSMM.out.1 h2
      go_wp2_with fail
      refine Rk.begin (S := fun wS => wS.cell? ⟨w.heap.size, 0, none⟩ = some (.slice (some ⟨g, i * 3, none⟩) r cp) /\ wS.cell? ⟨g, i * 3 + m * 3 + 1, none⟩ = some (.slice qm xs.length dm) /\ wS.cell? ⟨g, i * 3 + 1, none⟩ = some (.slice q0 ys.length d0) /\ Below wr.heap.size wr wS) 17 (by kernel_rfl) ⟨t0, a1, b1, Below.drew (Below.refl _ _)⟩ (fun hHeld => ?_)
      refine Rk.takeP (i := 0) (v := ?_) rfl (by kernel_rfl) (by kernel_rfl) (by kernel_rfl) (by kernel_rfl) (fun _ _ _ h => h) (Or.inl ⟨by kernel_rfl, ?_⟩) (by assumption) ?_
      rotate_left
      ·((intro w hSw; go_simp) <;> with_reducible rfl)
      try simp only [Act.put, List.setIfInBounds_toArray, List.set_cons_zero, List.set_cons_succ]
      refine Rk.take [2, 3, 4, 17] (i := 1) (v := ?_) rfl (by kernel_rfl) (by kernel_rfl) (by kernel_rfl) (by kernel_rfl) (by kernel_rfl) (fun _ _ _ h => h) (Or.inl ⟨by kernel_rfl, ?_⟩) (by assumption) ?_
      rotate_left
      ·((intro w hSw; (try dsimp only at hSw); go_simp) <;> with_reducible rfl)
      try simp only [Act.put, List.setIfInBounds_toArray, List.set_cons_zero, List.set_cons_succ]
      refine Rk.takeP (i := 2) (v := ?_) rfl (by kernel_rfl) (by kernel_rfl) (by kernel_rfl) (by kernel_rfl) (fun _ _ _ h => h) (Or.inl ⟨by kernel_rfl, ?_⟩) (by assumption) ?_
      rotate_left
      ·((intro w hSw; go_simp) <;> with_reducible rfl)
      try simp only [Act.put, List.setIfInBounds_toArray, List.set_cons_zero, List.set_cons_succ]
      refine Rk.takeP (i := 3) (v := ?_) rfl (by kernel_rfl) (by kernel_rfl) (by kernel_rfl) (by kernel_rfl) (fun _ _ _ h => h) (Or.inl ⟨by kernel_rfl, ?_⟩) (by assumption) ?_
      rotate_left
      ·((intro w hSw; go_simp) <;> with_reducible rfl)
      try simp only [Act.put, List.setIfInBounds_toArray, List.set_cons_zero, List.set_cons_succ]
      refine Rk.takeP (i := 4) (v := ?_) rfl (by kernel_rfl) (by kernel_rfl) (by kernel_rfl) (by kernel_rfl) (fun _ _ _ h => h) (Or.inl ⟨by kernel_rfl, ?_⟩) (by assumption) ?_
      rotate_left
      ·((intro w hSw; go_simp) <;> with_reducible rfl)
      try simp only [Act.put, List.setIfInBounds_toArray, List.set_cons_zero, List.set_cons_succ]
      refine Rk.take [7, 8, 9, 10, 16, 17] (i := 5) (v := ?_) rfl (by kernel_rfl) (by kernel_rfl) (by kernel_rfl) (by kernel_rfl) (by kernel_rfl) (fun _ _ _ h => h) (Or.inl ⟨by kernel_rfl, ?_⟩) (by assumption) ?_
      rotate_left
      ·((intro w hSw; (try dsimp only at hSw); go_simp) <;> with_reducible rfl)
      try simp only [Act.put, List.setIfInBounds_toArray, List.set_cons_zero, List.set_cons_succ]
      refine Rk.takeP (i := 6) (v := ?_) rfl (by kernel_rfl) (by kernel_rfl) (by kernel_rfl) (by kernel_rfl) (fun _ _ _ h => h) (Or.inl ⟨by kernel_rfl, ?_⟩) (by assumption) ?_
      rotate_left
      ·((intro w hSw; go_simp) <;> with_reducible rfl)
      try simp only [Act.put, List.setIfInBounds_toArray, List.set_cons_zero, List.set_cons_succ]
      refine Rk.takeP (i := 7) (v := ?_) rfl (by kernel_rfl) (by kernel_rfl) (by kernel_rfl) (by kernel_rfl) (fun _ _ _ h => h) (Or.inl ⟨by kernel_rfl, ?_⟩) (by assumption) ?_
      rotate_left
      ·((intro w hSw; go_simp) <;> with_reducible rfl)
      try simp only [Act.put, List.setIfInBounds_toArray, List.set_cons_zero, List.set_cons_succ]
      refine Rk.takeP (i := 8) (v := ?_) rfl (by kernel_rfl) (by kernel_rfl) (by kernel_rfl) (by kernel_rfl) (fun _ _ _ h => h) (Or.inl ⟨by kernel_rfl, ?_⟩) (by assumption) ?_
      rotate_left
      ·((intro w hSw; go_simp) <;> with_reducible rfl)
      try simp only [Act.put, List.setIfInBounds_toArray, List.set_cons_zero, List.set_cons_succ]
      refine Rk.takeP (i := 9) (v := ?_) rfl (by kernel_rfl) (by kernel_rfl) (by kernel_rfl) (by kernel_rfl) (fun _ _ _ h => h) (Or.inl ⟨by kernel_rfl, ?_⟩) (by assumption) ?_
      rotate_left
      ·((intro w hSw; go_simp) <;> with_reducible rfl)
      try simp only [Act.put, List.setIfInBounds_toArray, List.set_cons_zero, List.set_cons_succ]
      refine Rk.take [16, 17] (i := 10) (v := ?_) rfl (by kernel_rfl) (by kernel_rfl) (by kernel_rfl) (by kernel_rfl) (by kernel_rfl) (fun _ _ _ h => h) (Or.inl ⟨by kernel_rfl, ?_⟩) (by assumption) ?_
      rotate_left
      ·((intro w hSw; (try dsimp only at hSw); go_simp) <;> with_reducible rfl)
      try simp only [Act.put, List.setIfInBounds_toArray, List.set_cons_zero, List.set_cons_succ]
      refine Rk.take [12, 13, 14, 15, 16, 17] (i := 11) (v := ?_) rfl (by kernel_rfl) (by kernel_rfl) (by kernel_rfl) (by kernel_rfl) (by kernel_rfl) (fun _ _ _ h => h) (Or.inl ⟨by kernel_rfl, ?_⟩) (by assumption) ?_
      rotate_left
      ·((intro w hSw; (try dsimp only at hSw); go_simp) <;> with_reducible rfl)
      try simp only [Act.put, List.setIfInBounds_toArray, List.set_cons_zero, List.set_cons_succ]
      refine Rk.takeP (i := 12) (v := ?_) rfl (by kernel_rfl) (by kernel_rfl) (by kernel_rfl) (by kernel_rfl) (fun _ _ _ h => h) (Or.inl ⟨by kernel_rfl, ?_⟩) (by assumption) ?_
      rotate_left
      ·((intro w hSw; go_simp) <;> with_reducible rfl)
      try simp only [Act.put, List.setIfInBounds_toArray, List.set_cons_zero, List.set_cons_succ]
      refine Rk.takeP (i := 13) (v := ?_) rfl (by kernel_rfl) (by kernel_rfl) (by kernel_rfl) (by kernel_rfl) (fun _ _ _ h => h) (Or.inl ⟨by kernel_rfl, ?_⟩) (by assumption) ?_
      rotate_left
      ·((intro w hSw; go_simp) <;> with_reducible rfl)
      try simp only [Act.put, List.setIfInBounds_toArray, List.set_cons_zero, List.set_cons_succ]
      refine Rk.takeP (i := 14) (v := ?_) rfl (by kernel_rfl) (by kernel_rfl) (by kernel_rfl) (by kernel_rfl) (fun _ _ _ h => h) (Or.inl ⟨by kernel_rfl, ?_⟩) (by assumption) ?_
      rotate_left
      ·((intro w hSw; go_simp) <;> with_reducible rfl)
      try simp only [Act.put, List.setIfInBounds_toArray, List.set_cons_zero, List.set_cons_succ]
      refine Rk.take [16, 17] (i := 15) (v := ?_) rfl (by kernel_rfl) (by kernel_rfl) (by kernel_rfl) (by kernel_rfl) (by kernel_rfl) (fun _ _ _ h => h) (Or.inl ⟨by kernel_rfl, ?_⟩) (by assumption) ?_
      rotate_left
      ·((intro w hSw; (try dsimp only at hSw); go_simp) <;> with_reducible rfl)
      try simp only [Act.put, List.setIfInBounds_toArray, List.set_cons_zero, List.set_cons_succ]
      refine Rk.one (i := 16) (by kernel_rfl) rfl (fun KK hK => ?_)
      rw [if_pos (by kernel_rfl)]
      go_simp
      ((with_reducible refine (EQ.out _ (Lib.hid (SlM.keep hHeld.2.2.2 SMX.out)) (Lib.hid (SlM.keep hHeld.2.2.2 SMY.out))).mono ?_); rintro e u ⟨rfl, hb⟩)
      first | (refine hK.out _ _ (fun _ => HS.out _ _ hHeld hb) (fun hHeld => ?_)) | (refine hK.out _ _ (HS.out _ _ hHeld hb) (fun hHeld => ?_)) | (go_wp2_with fail; refine hK.out _ _ (HS.out _ _ hHeld hb) (fun hHeld => ?_))
      clear hK KK
      refine Rk.tail [17] [_] (by kernel_rfl) (by kernel_rfl) rfl (by decide) ?_

      have KU := Lib.hid (KX.out.trans (hHeld.2.2.2.mono KX.out.size))
      clear hHeld HS
      go_wp2_with fail
      go_roundw
      case rel => exact ⟨m + 1, by go_num, by omega, hnext, KU⟩
      case measure => simp [intOf]; omega
     | false =>
      obtain rfl : m = mm := by
       have h2 : ¬ xs = ys := fun h => of_decide_eq_false HQB.out ((lc_zero _ _).2 h)
       exact HSMM.out.2 h2
      go_wp2_with fail
      refine Rk.begin (S := fun wS => wS.cell? ⟨w.heap.size, 0, none⟩ = some (.slice (some ⟨g, i * 3, none⟩) r cp) /\ wS.cell? ⟨g, i * 3 + m * 3 + 1, none⟩ = some (.slice qm xs.length dm) /\ wS.cell? ⟨g, i * 3 + 1, none⟩ = some (.slice q0 ys.length d0) /\ Below wr.heap.size wr wS) 17 (by kernel_rfl) ⟨t0, a1, b1, Below.drew (Below.refl _ _)⟩ (fun hHeld => ?_)
      refine Rk.takeP (i := 0) (v := ?_) rfl (by kernel_rfl) (by kernel_rfl) (by kernel_rfl) (by kernel_rfl) (fun _ _ _ h => h) (Or.inl ⟨by kernel_rfl, ?_⟩) (by assumption) ?_
      rotate_left
      ·((intro w hSw; go_simp) <;> with_reducible rfl)
      try simp only [Act.put, List.setIfInBounds_toArray, List.set_cons_zero, List.set_cons_succ]
      refine Rk.take [2, 3, 4, 17] (i := 1) (v := ?_) rfl (by kernel_rfl) (by kernel_rfl) (by kernel_rfl) (by kernel_rfl) (by kernel_rfl) (fun _ _ _ h => h) (Or.inl ⟨by kernel_rfl, ?_⟩) (by assumption) ?_
      rotate_left
      ·((intro w hSw; (try dsimp only at hSw); go_simp) <;> with_reducible rfl)
      try simp only [Act.put, List.setIfInBounds_toArray, List.set_cons_zero, List.set_cons_succ]
      refine Rk.takeP (i := 2) (v := ?_) rfl (by kernel_rfl) (by kernel_rfl) (by kernel_rfl) (by kernel_rfl) (fun _ _ _ h => h) (Or.inl ⟨by kernel_rfl, ?_⟩) (by assumption) ?_
      rotate_left
      ·((intro w hSw; go_simp) <;> with_reducible rfl)
      try simp only [Act.put, List.setIfInBounds_toArray, List.set_cons_zero, List.set_cons_succ]
      refine Rk.takeP (i := 3) (v := ?_) rfl (by kernel_rfl) (by kernel_rfl) (by kernel_rfl) (by kernel_rfl) (fun _ _ _ h => h) (Or.inl ⟨by kernel_rfl, ?_⟩) (by assumption) ?_
      rotate_left
      ·((intro w hSw; go_simp) <;> with_reducible rfl)
      try simp only [Act.put, List.setIfInBounds_toArray, List.set_cons_zero, List.set_cons_succ]
      refine Rk.takeP (i := 4) (v := ?_) rfl (by kernel_rfl) (by kernel_rfl) (by kernel_rfl) (by kernel_rfl) (fun _ _ _ h => h) (Or.inl ⟨by kernel_rfl, ?_⟩) (by assumption) ?_
      rotate_left
      ·((intro w hSw; go_simp) <;> with_reducible rfl)
      try simp only [Act.put, List.setIfInBounds_toArray, List.set_cons_zero, List.set_cons_succ]
      refine Rk.take [7, 8, 9, 10, 16, 17] (i := 5) (v := ?_) rfl (by kernel_rfl) (by kernel_rfl) (by kernel_rfl) (by kernel_rfl) (by kernel_rfl) (fun _ _ _ h => h) (Or.inl ⟨by kernel_rfl, ?_⟩) (by assumption) ?_
      rotate_left
      ·((intro w hSw; (try dsimp only at hSw); go_simp) <;> with_reducible rfl)
      try simp only [Act.put, List.setIfInBounds_toArray, List.set_cons_zero, List.set_cons_succ]
      refine Rk.takeP (i := 6) (v := ?_) rfl (by kernel_rfl) (by kernel_rfl) (by kernel_rfl) (by kernel_rfl) (fun _ _ _ h => h) (Or.inl ⟨by kernel_rfl, ?_⟩) (by assumption) ?_
      rotate_left
      ·((intro w hSw; go_simp) <;> with_reducible rfl)
      try simp only [Act.put, List.setIfInBounds_toArray, List.set_cons_zero, List.set_cons_succ]
      refine Rk.takeP (i := 7) (v := ?_) rfl (by kernel_rfl) (by kernel_rfl) (by kernel_rfl) (by kernel_rfl) (fun _ _ _ h => h) (Or.inl ⟨by kernel_rfl, ?_⟩) (by assumption) ?_
      rotate_left
      ·((intro w hSw; go_simp) <;> with_reducible rfl)
      try simp only [Act.put, List.setIfInBounds_toArray, List.set_cons_zero, List.set_cons_succ]
      refine Rk.takeP (i := 8) (v := ?_) rfl (by kernel_rfl) (by kernel_rfl) (by kernel_rfl) (by kernel_rfl) (fun _ _ _ h => h) (Or.inl ⟨by kernel_rfl, ?_⟩) (by assumption) ?_
      rotate_left
      ·((intro w hSw; go_simp) <;> with_reducible rfl)
      try simp only [Act.put, List.setIfInBounds_toArray, List.set_cons_zero, List.set_cons_succ]
      refine Rk.takeP (i := 9) (v := ?_) rfl (by kernel_rfl) (by kernel_rfl) (by kernel_rfl) (by kernel_rfl) (fun _ _ _ h => h) (Or.inl ⟨by kernel_rfl, ?_⟩) (by assumption) ?_
      rotate_left
      ·((intro w hSw; go_simp) <;> with_reducible rfl)
      try simp only [Act.put, List.setIfInBounds_toArray, List.set_cons_zero, List.set_cons_succ]
      refine Rk.take [16, 17] (i := 10) (v := ?_) rfl (by kernel_rfl) (by kernel_rfl) (by kernel_rfl) (by kernel_rfl) (by kernel_rfl) (fun _ _ _ h => h) (Or.inl ⟨by kernel_rfl, ?_⟩) (by assumption) ?_
      rotate_left
      ·((intro w hSw; (try dsimp only at hSw); go_simp) <;> with_reducible rfl)
      try simp only [Act.put, List.setIfInBounds_toArray, List.set_cons_zero, List.set_cons_succ]
      refine Rk.take [12, 13, 14, 15, 16, 17] (i := 11) (v := ?_) rfl (by kernel_rfl) (by kernel_rfl) (by kernel_rfl) (by kernel_rfl) (by kernel_rfl) (fun _ _ _ h => h) (Or.inl ⟨by kernel_rfl, ?_⟩) (by assumption) ?_
      rotate_left
      ·((intro w hSw; (try dsimp only at hSw); go_simp) <;> with_reducible rfl)
      try simp only [Act.put, List.setIfInBounds_toArray, List.set_cons_zero, List.set_cons_succ]
      refine Rk.takeP (i := 12) (v := ?_) rfl (by kernel_rfl) (by kernel_rfl) (by kernel_rfl) (by kernel_rfl) (fun _ _ _ h => h) (Or.inl ⟨by kernel_rfl, ?_⟩) (by assumption) ?_
      rotate_left
      ·((intro w hSw; go_simp) <;> with_reducible rfl)
      try simp only [Act.put, List.setIfInBounds_toArray, List.set_cons_zero, List.set_cons_succ]
      refine Rk.takeP (i := 13) (v := ?_) rfl (by kernel_rfl) (by kernel_rfl) (by kernel_rfl) (by kernel_rfl) (fun _ _ _ h => h) (Or.inl ⟨by kernel_rfl, ?_⟩) (by assumption) ?_
      rotate_left
      ·((intro w hSw; go_simp) <;> with_reducible rfl)
      try simp only [Act.put, List.setIfInBounds_toArray, List.set_cons_zero, List.set_cons_succ]
      refine Rk.takeP (i := 14) (v := ?_) rfl (by kernel_rfl) (by kernel_rfl) (by kernel_rfl) (by kernel_rfl) (fun _ _ _ h => h) (Or.inl ⟨by kernel_rfl, ?_⟩) (by assumption) ?_
      rotate_left
      ·((intro w hSw; go_simp) <;> with_reducible rfl)
      try simp only [Act.put, List.setIfInBounds_toArray, List.set_cons_zero, List.set_cons_succ]
      refine Rk.take [16, 17] (i := 15) (v := ?_) rfl (by kernel_rfl) (by kernel_rfl) (by kernel_rfl) (by kernel_rfl) (by kernel_rfl) (fun _ _ _ h => h) (Or.inl ⟨by kernel_rfl, ?_⟩) (by assumption) ?_
      rotate_left
      ·((intro w hSw; (try dsimp only at hSw); go_simp) <;> with_reducible rfl)
      try simp only [Act.put, List.setIfInBounds_toArray, List.set_cons_zero, List.set_cons_succ]
      refine Rk.one (i := 16) (by kernel_rfl) rfl (fun KK hK => ?_)
      rw [if_pos (by kernel_rfl)]
      go_simp
      ((with_reducible refine (EQ.out _ (Lib.hid (SlM.keep hHeld.2.2.2 SMX.out)) (Lib.hid (SlM.keep hHeld.2.2.2 SMY.out))).mono ?_); rintro e u ⟨rfl, hb⟩)
      first | (refine hK.out _ _ (fun _ => HS.out _ _ hHeld hb) (fun hHeld => ?_)) | (refine hK.out _ _ (HS.out _ _ hHeld hb) (fun hHeld => ?_)) | (go_wp2_with fail; refine hK.out _ _ (HS.out _ _ hHeld hb) (fun hHeld => ?_))
      clear hK KK
      refine Rk.tail [17] [_] (by kernel_rfl) (by kernel_rfl) rfl (by decide) ?_

      have KU := Lib.hid (KX.out.trans (hHeld.2.2.2.mono KX.out.size))
      clear hHeld HS KX EQ SMX SMY HT OW ST t0 a1 b1
      obtain ⟨wx, rfl⟩ : ∃ wx, wx = u := ⟨_, rfl⟩
      have KX := KU
      clear KU

      have hbx := KX.out.size
      have HMx := Lib.hid ((KX.out.block _ (lt_of_block HM.out)).trans HM.out)
      have OWx := Lib.hid (own_belowE HOW.out KX.out)
      have STx := Lib.hid (HST.out.on (K59.below KX.out))
      have OKx := Lib.hid (own_belowE HOK.out KX.out)
      have SE := Lib.hid (SlE.take (m := m) (SlE_of (i := i) OWx.out HLL.out))
      have t0 := cell_of_one HMx.out
      have lzx : w.heap.size < wx.heap.size := World.block_lt_of_cell? _ _ t0
      rcases uniE_Q (STx.out.cut i m) (by rw [HLG.out]; omega) with ⟨hu, hue⟩ | ⟨tx, ex, hu, hue, hst⟩
      ·have UN := Lib.hid fun ww (hS : SlE ww g (i * 3) ((L'.drop i).take m)) => (by
        have h := uniG g (i * 3) cp ((L'.drop i).take m) ww (by rw [HLG.out]; omega) (by rw [HLG.out]; omega) (Lib.hid hS)
        rw [hue, HLG.out] at h
        exact h : Calls Tryd.prog 75 #[.slice (some ⟨g, i * 3, none⟩) m cp] ww fun e w' => e = .returned (.tuple #[agE e50, .bool false]) /\ Below ww.heap.size ww w')
       have HG : Hid (G = none) := Lib.hid (by rw [<- HGR.out, HGE.out, hu]; rfl)
       unfold agE e50 at UN
       dsimp only at UN
       clear hu hue
       go_wp2_with (go_at_call 75; (with_reducible refine (UN.out _ SE.out).mono ?_); rintro e w3 ⟨rfl, hb3⟩; have KX3 := Lib.hid (KX.out.trans (hb3.mono KX.out.size)); have KY3 := Lib.hid (HBW.out.trans (KX3.out.mono HBW.out.size)); clear hb3)
       refine bodyPost_ret (v := .tuple #[.slice none 0 0, .bool false, .int .i64 0]) (by simp [results, Tryd.results36, go_sem]) rfl ?_
       exact ⟨([], false, 0), none, 0, HNO.out HG.out, rfl, fun i hi => absurd hi (Nat.not_lt_zero _), Nat.le_refl _, KY3.out.alloc KY3.out.size _⟩
      ·have UN := Lib.hid fun ww (hS : SlE ww g (i * 3) ((L'.drop i).take m)) => (by
        have h := uniG g (i * 3) cp ((L'.drop i).take m) ww (by rw [HLG.out]; omega) (by rw [HLG.out]; omega) (Lib.hid hS)
        rw [hue, HLG.out] at h
        exact h : Calls Tryd.prog 75 #[.slice (some ⟨g, i * 3, none⟩) m cp] ww fun e w' => e = .returned (.tuple #[agE ex, .bool true]) /\ Below ww.heap.size ww w')
       have HG : Hid (∃ fu, n - (i + m) <= fu /\ (grpQ fu (T'.drop (i + m))).map ((KT ++ [tx]) ++ ·) = G) := Lib.hid ⟨kf, hkf, by
        rw [<- HGR.out, HGE.out, hu]
        dsimp only
        cases grpQ kf (T'.drop (i + m)) with
        | none => rfl
        | some o => simp⟩
       have HX := Lib.hid hst
       obtain ⟨k, qx, nx, dx, eqx⟩ := ex
       unfold agE at UN
       dsimp only at UN
       clear hu hue hst
       go_wp2_with (go_at_call 75; (with_reducible refine (UN.out _ SE.out).mono ?_); rintro e w3 ⟨rfl, hb3⟩; have KX3 := Lib.hid (KX.out.trans (hb3.mono KX.out.size)); have KY3 := Lib.hid (HBW.out.trans (KX3.out.mono HBW.out.size)); have HK3 := Lib.hid (own_belowE OKx.out hb3); have OW3 := Lib.hid (own_belowE OWx.out hb3); have HM3 := Lib.hid ((hb3.block _ lzx).trans HMx.out); have hb23 : b2 <= w3.heap.size := (by have := hb3.size; omega); have z0 := Rg.keep hb3 lzx t0; have lz3 : w.heap.size < w3.heap.size := (by have := hb3.size; omega); have K39 := Lib.hid (K59.below KX3.out); have K9x := Lib.hid (K59.below hb3); clear hb3)
       obtain ⟨i0, hi, hz0, hz1, hz2⟩ := info_parts info36
       have y3 : (w3.alloc (Obj.cells #[Value.int .i64 k, Value.slice qx nx dx, Value.bool eqx] 36)).cell? ⟨w.heap.size, 0, none⟩ = some (.slice (some ⟨g, i * 3, none⟩) r cp) := by go_cell
       have y0 : (w3.alloc (Obj.cells #[Value.int .i64 k, Value.slice qx nx dx, Value.bool eqx] 36)).cell? ⟨w3.heap.size, 0, none⟩ = some (.int .i64 k) := by go_cell
       have y1 : (w3.alloc (Obj.cells #[Value.int .i64 k, Value.slice qx nx dx, Value.bool eqx] 36)).cell? ⟨w3.heap.size, 1, none⟩ = some (.slice qx nx dx) := by go_cell
       have y2 : (w3.alloc (Obj.cells #[Value.int .i64 k, Value.slice qx nx dx, Value.bool eqx] 36)).cell? ⟨w3.heap.size, 2, none⟩ = some (.bool eqx) := by go_cell
       have HS : Hid (∀ u u' : World, (u.cell? ⟨w.heap.size, 0, none⟩ = some (.slice (some ⟨g, i * 3, none⟩) r cp) /\ u.cell? ⟨w3.heap.size, 0, none⟩ = some (.int .i64 k) /\ u.cell? ⟨w3.heap.size, 1, none⟩ = some (.slice qx nx dx) /\ u.cell? ⟨w3.heap.size, 2, none⟩ = some (.bool eqx) /\ Below b2 w3 u /\ K59 w3 u) -> Below u.heap.size u u' -> (u'.cell? ⟨w.heap.size, 0, none⟩ = some (.slice (some ⟨g, i * 3, none⟩) r cp) /\ u'.cell? ⟨w3.heap.size, 0, none⟩ = some (.int .i64 k) /\ u'.cell? ⟨w3.heap.size, 1, none⟩ = some (.slice qx nx dx) /\ u'.cell? ⟨w3.heap.size, 2, none⟩ = some (.bool eqx) /\ Below b2 w3 u' /\ K59 w3 u')) := Lib.hid (fun u u' h hb => ⟨Rg.keep hb (World.block_lt_of_cell? _ _ h.1) h.1, Rg.keep hb (World.block_lt_of_cell? _ _ h.2.1) h.2.1, Rg.keep hb (World.block_lt_of_cell? _ _ h.2.2.1) h.2.2.1, Rg.keep hb (World.block_lt_of_cell? _ _ h.2.2.2.1) h.2.2.2.1, h.2.2.2.2.1.trans (hb.mono (Nat.le_trans hb23 (Nat.le_of_lt (World.block_lt_of_cell? _ _ h.2.1)))), h.2.2.2.2.2.trans (K59.below hb)⟩)
       refine Rk.begin (S := fun wS => (wS.cell? ⟨w.heap.size, 0, none⟩ = some (.slice (some ⟨g, i * 3, none⟩) r cp) /\ wS.cell? ⟨w3.heap.size, 0, none⟩ = some (.int .i64 k) /\ wS.cell? ⟨w3.heap.size, 1, none⟩ = some (.slice qx nx dx) /\ wS.cell? ⟨w3.heap.size, 2, none⟩ = some (.bool eqx) /\ Below b2 w3 wS /\ K59 w3 wS)) 8 (by kernel_rfl) ⟨y3, y0, y1, y2, ((Below.refl _ _).alloc hb23 _).drew, K59.below (((Below.refl _ _).alloc (Nat.le_refl _) _).drew)⟩ (fun hHeld => ?_)
       refine Rk.takeP (i := 0) (v := ?_) rfl (by kernel_rfl) (by kernel_rfl) (by kernel_rfl) (by kernel_rfl) (fun _ _ _ h => h) (Or.inl ⟨by kernel_rfl, ?_⟩) (by assumption) ?_
       rotate_left
       ·((intro w hSw; go_simp) <;> with_reducible rfl)
       try simp only [Act.put, List.setIfInBounds_toArray, List.set_cons_zero, List.set_cons_succ]
       refine Rk.take [8] (i := 1) (v := ?_) rfl (by kernel_rfl) (by kernel_rfl) (by kernel_rfl) (by kernel_rfl) (by kernel_rfl) (fun _ _ _ h => h) (Or.inl ⟨by kernel_rfl, ?_⟩) (by assumption) ?_
       rotate_left
       ·((intro w hSw; (try dsimp only at hSw); go_simp) <;> with_reducible rfl)
       try simp only [Act.put, List.setIfInBounds_toArray, List.set_cons_zero, List.set_cons_succ]
       refine Rk.take [8] (i := 4) (v := ?_) rfl (by kernel_rfl) (by kernel_rfl) (by kernel_rfl) (by kernel_rfl) (by kernel_rfl) (fun _ _ _ h => h) (Or.inl ⟨by kernel_rfl, ?_⟩) (by assumption) ?_
       rotate_left
       ·((intro w hSw; (try dsimp only at hSw); go_simp) <;> with_reducible rfl)
       try simp only [Act.put, List.setIfInBounds_toArray, List.set_cons_zero, List.set_cons_succ]
       refine Rk.takeP (i := 5) (v := ?_) rfl (by kernel_rfl) (by kernel_rfl) (by kernel_rfl) (by kernel_rfl) (fun _ _ _ h => h) (Or.inl ⟨by kernel_rfl, ?_⟩) (by assumption) ?_
       rotate_left
       ·((intro w hSw; go_simp) <;> with_reducible rfl)
       try simp only [Act.put, List.setIfInBounds_toArray, List.set_cons_zero, List.set_cons_succ]
       refine Rk.takeP (i := 6) (v := ?_) rfl (by kernel_rfl) (by kernel_rfl) (by kernel_rfl) (by kernel_rfl) (fun _ _ _ h => h) (Or.inl ⟨by kernel_rfl, ?_⟩) (by assumption) ?_
       rotate_left
       ·((intro w hSw; go_simp) <;> with_reducible rfl)
       try simp only [Act.put, List.setIfInBounds_toArray, List.set_cons_zero, List.set_cons_succ]
       refine Rk.one (i := 2) (by kernel_rfl) rfl (fun KK hK => ?_)
       rw [if_pos (by kernel_rfl)]
       go_simp
       first | (refine hK.out _ _ (fun _ => HS.out _ _ hHeld ((Below.refl _ _).alloc (Nat.le_refl _) (Obj.cells #[Value.int .i64 k, Value.slice qx nx dx, Value.bool eqx] 36))) (fun hHeld => ?_)) | (refine hK.out _ _ (HS.out _ _ hHeld ((Below.refl _ _).alloc (Nat.le_refl _) (Obj.cells #[Value.int .i64 k, Value.slice qx nx dx, Value.bool eqx] 36))) (fun hHeld => ?_))
       clear hK KK
       refine Rk.one (i := 3) (by kernel_rfl) rfl (fun KK hK => ?_)
       rw [if_pos (by kernel_rfl)]
       refine wp_append_own _ _ _ 30 rfl b2 36 i0 (.agg #[.int .i64 0, .slice none 0 0, .bool false]) 3 40 Tryd.underlying30 hi hz0 hz1 hz2 rfl (by decide) (.slice kq KL.length kc) KL.length (rowE KL) rfl (by first | exact (HK3.out.alloc _).drew.alloc _ | exact (HK3.out.alloc _).alloc _ | exact ((HK3.out.alloc _).alloc _).drew) _ 1 1 [.int .i64 k, .slice qx nx dx, .bool eqx] rfl rfl ?_ ?_ ?_ ?_ ?_ ?_
       ·intro q x hx
        rcases q with _ | _ | _ | q
        ·cases hx; go_cell
        ·cases hx; go_cell
        ·cases hx; go_cell
        ·simp at hx
       ·intro x hx
        simp at hx
        rcases hx with rfl | rfl | rfl <;> rfl
       ·unfold maxLen; omega
       ·omega
       ·simp; omega
       intro vk wk hk2 hk3 _
       have hgr : ∀ b, b < b2 \/ b = w3.heap.size -> wk.heap[b]? = (w3.alloc (Obj.cells #[Value.int .i64 k, Value.slice qx nx dx, Value.bool eqx] 36)).heap[b]? := fun b h1 => (hk3.block b (by first | (simp; omega) | (simp <;> omega)) (fun hh => by have := HK3.out.lt b hh.symm; omega)).trans (by first | exact Below.heap_alloc _ _ _ (by simp; omega) | exact Below.heap_alloc _ _ _ (by simp <;> omega))
       have hkk : K59 w3 wk := ((K59.below (by first | exact ((Below.refl _ _).alloc (Nat.le_refl _) _).drew.alloc (by simp) _ | exact ((Below.refl _ _).alloc (Nat.le_refl _) _).alloc (by simp) _)).trans (K59.own (by first | exact (HK3.out.alloc _).drew.alloc _ | exact (HK3.out.alloc _).alloc _) (by decide) hk3))
       have hNew : (wk.cell? ⟨w.heap.size, 0, none⟩ = some (.slice (some ⟨g, i * 3, none⟩) r cp) /\ wk.cell? ⟨w3.heap.size, 0, none⟩ = some (.int .i64 k) /\ wk.cell? ⟨w3.heap.size, 1, none⟩ = some (.slice qx nx dx) /\ wk.cell? ⟨w3.heap.size, 2, none⟩ = some (.bool eqx) /\ Below b2 w3 wk /\ K59 w3 wk) := ⟨(World.cell?_of_block (a := ⟨w.heap.size, 0, none⟩) (hgr _ (.inl (by omega)))).trans y3, (World.cell?_of_block (a := ⟨w3.heap.size, 0, none⟩) (hgr _ (.inr rfl))).trans y0, (World.cell?_of_block (a := ⟨w3.heap.size, 1, none⟩) (hgr _ (.inr rfl))).trans y1, (World.cell?_of_block (a := ⟨w3.heap.size, 2, none⟩) (hgr _ (.inr rfl))).trans y2, (by first | exact ((((Below.refl _ _).alloc hb23 _).drew.alloc (by simp; omega) _).grown hk3 (by simp; omega) (fun b hb => (HK3.out.lt b hb).1)) | exact ((((Below.refl _ _).alloc hb23 _).alloc (by simp; omega) _).grown hk3 (by simp; omega) (fun b hb => (HK3.out.lt b hb).1))), hkk⟩
       first | (refine hK.out _ _ (fun _ => hNew) (fun hHeld => ?_)) | (refine hK.out _ _ hNew (fun hHeld => ?_))
       clear hK KK
       refine Rk.takeP (i := 7) (v := ?_) rfl (by kernel_rfl) (by kernel_rfl) (by kernel_rfl) (by kernel_rfl) (fun _ _ _ h => h) (Or.inl ⟨by kernel_rfl, ?_⟩) (by assumption) ?_
       rotate_left
       ·((intro w hSw; go_simp) <;> with_reducible rfl)
       try simp only [Act.put, List.setIfInBounds_toArray, List.set_cons_zero, List.set_cons_succ]
       refine Rk.tail [8] [_] (by kernel_rfl) (by kernel_rfl) rfl (by decide) ?_

       obtain ⟨v0, v1, v2, v3, KB, K9⟩ := hHeld
       have HMk := Lib.hid ((KB.block _ hwb).trans HM3.out)
       have rf : wk.frozen? ⟨w.heap.size, 0, none⟩ = false := free_of_one HMk.out
       have l3 : w.heap.size < wk.heap.size := lt_of_block HMk.out
       have KBk := Lib.hid KB
       have K9k := Lib.hid (K39.out.trans K9)
       have K9w := Lib.hid (K9x.out.trans K9)
       have HK4 := Lib.hid hk2
       have hbk : b2 <= wk.heap.size := by have := KB.size; omega
       clear hk2 hk3 KB K9 v1 v2 v3 HS
       have hfin : ∀ X, (wk.setCell ⟨w.heap.size, 0, none⟩ X).heap[w.heap.size]? = some (.cells #[X] 30 (0, 0)) /\ (wk.setCell ⟨w.heap.size, 0, none⟩ X).ownsRow (w.heap.size + 2) 36 3 (.slice (some ⟨g, 0, none⟩) n cap) n (rowE L') /\ StdL (wk.setCell ⟨w.heap.size, 0, none⟩ X) L' T' /\ (wk.setCell ⟨w.heap.size, 0, none⟩ X).ownsRow b2 36 3 vk (KL ++ [(k, qx, nx, dx, eqx)]).length (rowE (KL ++ [(k, qx, nx, dx, eqx)])) /\ StdL (wk.setCell ⟨w.heap.size, 0, none⟩ X) (KL ++ [(k, qx, nx, dx, eqx)]) (KT ++ [tx]) /\ Below w.heap.size w (wk.setCell ⟨w.heap.size, 0, none⟩ X) /\ b2 <= (wk.setCell ⟨w.heap.size, 0, none⟩ X).heap.size := fun X => by
        have ks := K59.set (o := 0) X HMk.out (by decide)
        refine ⟨one_setCell HMk.out, own_set (own_blkE OW3.out hgb KBk.out) (by dsimp only; omega), HST.out.on (K9k.out.trans ks), (by rw [rowE_snoc]; simp only [List.length_append, List.length_cons, List.length_nil]; exact own_set HK4.out (by dsimp only; omega)), (HSK.out.on (K9k.out.trans ks)).snoc ⟨HX.out.1, HX.out.2.1, HX.out.2.2.1, HX.out.2.2.2.on (K9w.out.trans ks)⟩, (KY3.out.trans (KBk.out.mono (by omega))).setCell (p := ⟨w.heap.size, 0, none⟩) (Nat.le_refl _) _, by simp; omega⟩
       have HF := Lib.hid hfin
       clear hfin

       obtain ⟨vq, vc, rfl⟩ := own_slice HK4.out
       have hnlen : (KL ++ [(k, qx, nx, dx, eqx)]).length = KL.length + 1 := by simp
       go_wp2_with fail
       have hx := HF.out (.slice (some ⟨g, i * 3 + m * 3, none⟩) (r - m) (cp - m))
       obtain ⟨fu2, hfu2, hG2⟩ := HG.out
       have hrow := hx.2.2.2.1
       rw [show KL.length + 1 = (KL ++ [(k, qx, nx, dx, eqx)]).length from hnlen.symm] at hrow
       exact ⟨⟨i + m, r - m, _, cp - m, vq, vc, KL ++ [(k, qx, nx, dx, eqx)], KT ++ [tx], by rw [hnlen], by omega, by omega, by rw [hnlen]; omega, hx.2.2.2.2.2.2, Lib.hid (fun h => by rw [Nat.add_mul]), Lib.hid hx.1, Lib.hid hx.2.1, Lib.hid hx.2.2.1, Lib.hid hrow, Lib.hid hx.2.2.2.2.1, Lib.hid ⟨fu2, by omega, hG2⟩, Lib.hid hx.2.2.2.2.2.1⟩, by rw [lenAt_of hx.1, lenAt_of HM.out]; omega⟩

    ·obtain rfl : m = mm := by omega
     obtain rfl : m = r := by omega
     have HT := Lib.hid ((KX.out.block _ (lt_of_block HM.out)).trans HM.out)
     have t0 := cell_of_one HT.out
     have m1 : ¬ (m : Int) < m := by omega
     have m2 : decide ((m : Int) < m) = false := by simp
     go_wp2_with fail
     go_quiet (fail)
     have KU : Hid (Below wz.heap.size wz (wr.drewN nq)) := Lib.hid (KX.out.trans ⟨rfl, rfl, rfl, Nat.le_refl _, fun _ _ => rfl⟩)
     clear HT t0
     generalize wr.drewN nq = wx at *
     replace KX := KU
     clear KU

     have hbx := KX.out.size
     have HMx := Lib.hid ((KX.out.block _ (lt_of_block HM.out)).trans HM.out)
     have OWx := Lib.hid (own_belowE HOW.out KX.out)
     have STx := Lib.hid (HST.out.on (K59.below KX.out))
     have OKx := Lib.hid (own_belowE HOK.out KX.out)
     have SE := Lib.hid (SlE.take (m := m) (SlE_of (i := i) OWx.out HLL.out))
     have t0 := cell_of_one HMx.out
     have lzx : w.heap.size < wx.heap.size := World.block_lt_of_cell? _ _ t0
     rcases uniE_Q (STx.out.cut i m) (by rw [HLG.out]; omega) with ⟨hu, hue⟩ | ⟨tx, ex, hu, hue, hst⟩
     ·have UN := Lib.hid fun ww (hS : SlE ww g (i * 3) ((L'.drop i).take m)) => (by
       have h := uniG g (i * 3) cp ((L'.drop i).take m) ww (by rw [HLG.out]; omega) (by rw [HLG.out]; omega) (Lib.hid hS)
       rw [hue, HLG.out] at h
       exact h : Calls Tryd.prog 75 #[.slice (some ⟨g, i * 3, none⟩) m cp] ww fun e w' => e = .returned (.tuple #[agE e50, .bool false]) /\ Below ww.heap.size ww w')
      have HG : Hid (G = none) := Lib.hid (by rw [<- HGR.out, HGE.out, hu]; rfl)
      unfold agE e50 at UN
      dsimp only at UN
      clear hu hue
      go_wp2_with (go_at_call 75; (with_reducible refine (UN.out _ SE.out).mono ?_); rintro e w3 ⟨rfl, hb3⟩; have KX3 := Lib.hid (KX.out.trans (hb3.mono KX.out.size)); have KY3 := Lib.hid (HBW.out.trans (KX3.out.mono HBW.out.size)); clear hb3)
      refine bodyPost_ret (v := .tuple #[.slice none 0 0, .bool false, .int .i64 0]) (by simp [results, Tryd.results36, go_sem]) rfl ?_
      exact ⟨([], false, 0), none, 0, HNO.out HG.out, rfl, fun i hi => absurd hi (Nat.not_lt_zero _), Nat.le_refl _, KY3.out.alloc KY3.out.size _⟩
     ·have UN := Lib.hid fun ww (hS : SlE ww g (i * 3) ((L'.drop i).take m)) => (by
       have h := uniG g (i * 3) cp ((L'.drop i).take m) ww (by rw [HLG.out]; omega) (by rw [HLG.out]; omega) (Lib.hid hS)
       rw [hue, HLG.out] at h
       exact h : Calls Tryd.prog 75 #[.slice (some ⟨g, i * 3, none⟩) m cp] ww fun e w' => e = .returned (.tuple #[agE ex, .bool true]) /\ Below ww.heap.size ww w')
      have HG : Hid (∃ fu, n - (i + m) <= fu /\ (grpQ fu (T'.drop (i + m))).map ((KT ++ [tx]) ++ ·) = G) := Lib.hid ⟨kf, hkf, by
       rw [<- HGR.out, HGE.out, hu]
       dsimp only
       cases grpQ kf (T'.drop (i + m)) with
       | none => rfl
       | some o => simp⟩
      have HX := Lib.hid hst
      obtain ⟨k, qx, nx, dx, eqx⟩ := ex
      unfold agE at UN
      dsimp only at UN
      clear hu hue hst
      go_wp2_with (go_at_call 75; (with_reducible refine (UN.out _ SE.out).mono ?_); rintro e w3 ⟨rfl, hb3⟩; have KX3 := Lib.hid (KX.out.trans (hb3.mono KX.out.size)); have KY3 := Lib.hid (HBW.out.trans (KX3.out.mono HBW.out.size)); have HK3 := Lib.hid (own_belowE OKx.out hb3); have OW3 := Lib.hid (own_belowE OWx.out hb3); have HM3 := Lib.hid ((hb3.block _ lzx).trans HMx.out); have hb23 : b2 <= w3.heap.size := (by have := hb3.size; omega); have z0 := Rg.keep hb3 lzx t0; have lz3 : w.heap.size < w3.heap.size := (by have := hb3.size; omega); have K39 := Lib.hid (K59.below KX3.out); have K9x := Lib.hid (K59.below hb3); clear hb3)
      obtain ⟨i0, hi, hz0, hz1, hz2⟩ := info_parts info36
      have y3 : (w3.alloc (Obj.cells #[Value.int .i64 k, Value.slice qx nx dx, Value.bool eqx] 36)).cell? ⟨w.heap.size, 0, none⟩ = some (.slice (some ⟨g, i * 3, none⟩) m cp) := by go_cell
      have y0 : (w3.alloc (Obj.cells #[Value.int .i64 k, Value.slice qx nx dx, Value.bool eqx] 36)).cell? ⟨w3.heap.size, 0, none⟩ = some (.int .i64 k) := by go_cell
      have y1 : (w3.alloc (Obj.cells #[Value.int .i64 k, Value.slice qx nx dx, Value.bool eqx] 36)).cell? ⟨w3.heap.size, 1, none⟩ = some (.slice qx nx dx) := by go_cell
      have y2 : (w3.alloc (Obj.cells #[Value.int .i64 k, Value.slice qx nx dx, Value.bool eqx] 36)).cell? ⟨w3.heap.size, 2, none⟩ = some (.bool eqx) := by go_cell
      have HS : Hid (∀ u u' : World, (u.cell? ⟨w.heap.size, 0, none⟩ = some (.slice (some ⟨g, i * 3, none⟩) m cp) /\ u.cell? ⟨w3.heap.size, 0, none⟩ = some (.int .i64 k) /\ u.cell? ⟨w3.heap.size, 1, none⟩ = some (.slice qx nx dx) /\ u.cell? ⟨w3.heap.size, 2, none⟩ = some (.bool eqx) /\ Below b2 w3 u /\ K59 w3 u) -> Below u.heap.size u u' -> (u'.cell? ⟨w.heap.size, 0, none⟩ = some (.slice (some ⟨g, i * 3, none⟩) m cp) /\ u'.cell? ⟨w3.heap.size, 0, none⟩ = some (.int .i64 k) /\ u'.cell? ⟨w3.heap.size, 1, none⟩ = some (.slice qx nx dx) /\ u'.cell? ⟨w3.heap.size, 2, none⟩ = some (.bool eqx) /\ Below b2 w3 u' /\ K59 w3 u')) := Lib.hid (fun u u' h hb => ⟨Rg.keep hb (World.block_lt_of_cell? _ _ h.1) h.1, Rg.keep hb (World.block_lt_of_cell? _ _ h.2.1) h.2.1, Rg.keep hb (World.block_lt_of_cell? _ _ h.2.2.1) h.2.2.1, Rg.keep hb (World.block_lt_of_cell? _ _ h.2.2.2.1) h.2.2.2.1, h.2.2.2.2.1.trans (hb.mono (Nat.le_trans hb23 (Nat.le_of_lt (World.block_lt_of_cell? _ _ h.2.1)))), h.2.2.2.2.2.trans (K59.below hb)⟩)
      refine Rk.begin (S := fun wS => (wS.cell? ⟨w.heap.size, 0, none⟩ = some (.slice (some ⟨g, i * 3, none⟩) m cp) /\ wS.cell? ⟨w3.heap.size, 0, none⟩ = some (.int .i64 k) /\ wS.cell? ⟨w3.heap.size, 1, none⟩ = some (.slice qx nx dx) /\ wS.cell? ⟨w3.heap.size, 2, none⟩ = some (.bool eqx) /\ Below b2 w3 wS /\ K59 w3 wS)) 8 (by kernel_rfl) ⟨y3, y0, y1, y2, ((Below.refl _ _).alloc hb23 _).drew, K59.below (((Below.refl _ _).alloc (Nat.le_refl _) _).drew)⟩ (fun hHeld => ?_)
      refine Rk.takeP (i := 0) (v := ?_) rfl (by kernel_rfl) (by kernel_rfl) (by kernel_rfl) (by kernel_rfl) (fun _ _ _ h => h) (Or.inl ⟨by kernel_rfl, ?_⟩) (by assumption) ?_
      rotate_left
      ·((intro w hSw; go_simp) <;> with_reducible rfl)
      try simp only [Act.put, List.setIfInBounds_toArray, List.set_cons_zero, List.set_cons_succ]
      refine Rk.take [8] (i := 1) (v := ?_) rfl (by kernel_rfl) (by kernel_rfl) (by kernel_rfl) (by kernel_rfl) (by kernel_rfl) (fun _ _ _ h => h) (Or.inl ⟨by kernel_rfl, ?_⟩) (by assumption) ?_
      rotate_left
      ·((intro w hSw; (try dsimp only at hSw); go_simp) <;> with_reducible rfl)
      try simp only [Act.put, List.setIfInBounds_toArray, List.set_cons_zero, List.set_cons_succ]
      refine Rk.take [8] (i := 4) (v := ?_) rfl (by kernel_rfl) (by kernel_rfl) (by kernel_rfl) (by kernel_rfl) (by kernel_rfl) (fun _ _ _ h => h) (Or.inl ⟨by kernel_rfl, ?_⟩) (by assumption) ?_
      rotate_left
      ·((intro w hSw; (try dsimp only at hSw); go_simp) <;> with_reducible rfl)
      try simp only [Act.put, List.setIfInBounds_toArray, List.set_cons_zero, List.set_cons_succ]
      refine Rk.takeP (i := 5) (v := ?_) rfl (by kernel_rfl) (by kernel_rfl) (by kernel_rfl) (by kernel_rfl) (fun _ _ _ h => h) (Or.inl ⟨by kernel_rfl, ?_⟩) (by assumption) ?_
      rotate_left
      ·((intro w hSw; go_simp) <;> with_reducible rfl)
      try simp only [Act.put, List.setIfInBounds_toArray, List.set_cons_zero, List.set_cons_succ]
      refine Rk.takeP (i := 6) (v := ?_) rfl (by kernel_rfl) (by kernel_rfl) (by kernel_rfl) (by kernel_rfl) (fun _ _ _ h => h) (Or.inl ⟨by kernel_rfl, ?_⟩) (by assumption) ?_
      rotate_left
      ·((intro w hSw; go_simp) <;> with_reducible rfl)
      try simp only [Act.put, List.setIfInBounds_toArray, List.set_cons_zero, List.set_cons_succ]
      refine Rk.one (i := 2) (by kernel_rfl) rfl (fun KK hK => ?_)
      rw [if_pos (by kernel_rfl)]
      go_simp
      first | (refine hK.out _ _ (fun _ => HS.out _ _ hHeld ((Below.refl _ _).alloc (Nat.le_refl _) (Obj.cells #[Value.int .i64 k, Value.slice qx nx dx, Value.bool eqx] 36))) (fun hHeld => ?_)) | (refine hK.out _ _ (HS.out _ _ hHeld ((Below.refl _ _).alloc (Nat.le_refl _) (Obj.cells #[Value.int .i64 k, Value.slice qx nx dx, Value.bool eqx] 36))) (fun hHeld => ?_))
      clear hK KK
      refine Rk.one (i := 3) (by kernel_rfl) rfl (fun KK hK => ?_)
      rw [if_pos (by kernel_rfl)]
      refine wp_append_own _ _ _ 30 rfl b2 36 i0 (.agg #[.int .i64 0, .slice none 0 0, .bool false]) 3 40 Tryd.underlying30 hi hz0 hz1 hz2 rfl (by decide) (.slice kq KL.length kc) KL.length (rowE KL) rfl (by first | exact (HK3.out.alloc _).drew.alloc _ | exact (HK3.out.alloc _).alloc _ | exact ((HK3.out.alloc _).alloc _).drew) _ 1 1 [.int .i64 k, .slice qx nx dx, .bool eqx] rfl rfl ?_ ?_ ?_ ?_ ?_ ?_
      ·intro q x hx
       rcases q with _ | _ | _ | q
       ·cases hx; go_cell
       ·cases hx; go_cell
       ·cases hx; go_cell
       ·simp at hx
      ·intro x hx
       simp at hx
       rcases hx with rfl | rfl | rfl <;> rfl
      ·unfold maxLen; omega
      ·omega
      ·simp; omega
      intro vk wk hk2 hk3 _
      have hgr : ∀ b, b < b2 \/ b = w3.heap.size -> wk.heap[b]? = (w3.alloc (Obj.cells #[Value.int .i64 k, Value.slice qx nx dx, Value.bool eqx] 36)).heap[b]? := fun b h1 => (hk3.block b (by first | (simp; omega) | (simp <;> omega)) (fun hh => by have := HK3.out.lt b hh.symm; omega)).trans (by first | exact Below.heap_alloc _ _ _ (by simp; omega) | exact Below.heap_alloc _ _ _ (by simp <;> omega))
      have hkk : K59 w3 wk := ((K59.below (by first | exact ((Below.refl _ _).alloc (Nat.le_refl _) _).drew.alloc (by simp) _ | exact ((Below.refl _ _).alloc (Nat.le_refl _) _).alloc (by simp) _)).trans (K59.own (by first | exact (HK3.out.alloc _).drew.alloc _ | exact (HK3.out.alloc _).alloc _) (by decide) hk3))
      have hNew : (wk.cell? ⟨w.heap.size, 0, none⟩ = some (.slice (some ⟨g, i * 3, none⟩) m cp) /\ wk.cell? ⟨w3.heap.size, 0, none⟩ = some (.int .i64 k) /\ wk.cell? ⟨w3.heap.size, 1, none⟩ = some (.slice qx nx dx) /\ wk.cell? ⟨w3.heap.size, 2, none⟩ = some (.bool eqx) /\ Below b2 w3 wk /\ K59 w3 wk) := ⟨(World.cell?_of_block (a := ⟨w.heap.size, 0, none⟩) (hgr _ (.inl (by omega)))).trans y3, (World.cell?_of_block (a := ⟨w3.heap.size, 0, none⟩) (hgr _ (.inr rfl))).trans y0, (World.cell?_of_block (a := ⟨w3.heap.size, 1, none⟩) (hgr _ (.inr rfl))).trans y1, (World.cell?_of_block (a := ⟨w3.heap.size, 2, none⟩) (hgr _ (.inr rfl))).trans y2, (by first | exact ((((Below.refl _ _).alloc hb23 _).drew.alloc (by simp; omega) _).grown hk3 (by simp; omega) (fun b hb => (HK3.out.lt b hb).1)) | exact ((((Below.refl _ _).alloc hb23 _).alloc (by simp; omega) _).grown hk3 (by simp; omega) (fun b hb => (HK3.out.lt b hb).1))), hkk⟩
      first | (refine hK.out _ _ (fun _ => hNew) (fun hHeld => ?_)) | (refine hK.out _ _ hNew (fun hHeld => ?_))
      clear hK KK
      refine Rk.takeP (i := 7) (v := ?_) rfl (by kernel_rfl) (by kernel_rfl) (by kernel_rfl) (by kernel_rfl) (fun _ _ _ h => h) (Or.inl ⟨by kernel_rfl, ?_⟩) (by assumption) ?_
      rotate_left
      ·((intro w hSw; go_simp) <;> with_reducible rfl)
      try simp only [Act.put, List.setIfInBounds_toArray, List.set_cons_zero, List.set_cons_succ]
      refine Rk.tail [8] [_] (by kernel_rfl) (by kernel_rfl) rfl (by decide) ?_

      obtain ⟨v0, v1, v2, v3, KB, K9⟩ := hHeld
      have HMk := Lib.hid ((KB.block _ hwb).trans HM3.out)
      have rf : wk.frozen? ⟨w.heap.size, 0, none⟩ = false := free_of_one HMk.out
      have l3 : w.heap.size < wk.heap.size := lt_of_block HMk.out
      have KBk := Lib.hid KB
      have K9k := Lib.hid (K39.out.trans K9)
      have K9w := Lib.hid (K9x.out.trans K9)
      have HK4 := Lib.hid hk2
      have hbk : b2 <= wk.heap.size := by have := KB.size; omega
      clear hk2 hk3 KB K9 v1 v2 v3 HS
      have hfin : ∀ X, (wk.setCell ⟨w.heap.size, 0, none⟩ X).heap[w.heap.size]? = some (.cells #[X] 30 (0, 0)) /\ (wk.setCell ⟨w.heap.size, 0, none⟩ X).ownsRow (w.heap.size + 2) 36 3 (.slice (some ⟨g, 0, none⟩) n cap) n (rowE L') /\ StdL (wk.setCell ⟨w.heap.size, 0, none⟩ X) L' T' /\ (wk.setCell ⟨w.heap.size, 0, none⟩ X).ownsRow b2 36 3 vk (KL ++ [(k, qx, nx, dx, eqx)]).length (rowE (KL ++ [(k, qx, nx, dx, eqx)])) /\ StdL (wk.setCell ⟨w.heap.size, 0, none⟩ X) (KL ++ [(k, qx, nx, dx, eqx)]) (KT ++ [tx]) /\ Below w.heap.size w (wk.setCell ⟨w.heap.size, 0, none⟩ X) /\ b2 <= (wk.setCell ⟨w.heap.size, 0, none⟩ X).heap.size := fun X => by
       have ks := K59.set (o := 0) X HMk.out (by decide)
       refine ⟨one_setCell HMk.out, own_set (own_blkE OW3.out hgb KBk.out) (by dsimp only; omega), HST.out.on (K9k.out.trans ks), (by rw [rowE_snoc]; simp only [List.length_append, List.length_cons, List.length_nil]; exact own_set HK4.out (by dsimp only; omega)), (HSK.out.on (K9k.out.trans ks)).snoc ⟨HX.out.1, HX.out.2.1, HX.out.2.2.1, HX.out.2.2.2.on (K9w.out.trans ks)⟩, (KY3.out.trans (KBk.out.mono (by omega))).setCell (p := ⟨w.heap.size, 0, none⟩) (Nat.le_refl _) _, by simp; omega⟩
      have HF := Lib.hid hfin
      clear hfin

      obtain ⟨vq, vc, rfl⟩ := own_slice HK4.out
      have hnlen : (KL ++ [(k, qx, nx, dx, eqx)]).length = KL.length + 1 := by simp
      go_wp2_with fail
      have hx := HF.out (.slice (if cp = m then some ⟨g, i * 3, none⟩ else some ⟨g, i * 3 + m * 3, none⟩) 0 (cp - m))
      obtain ⟨fu2, hfu2, hG2⟩ := HG.out
      have hrow := hx.2.2.2.1
      rw [show KL.length + 1 = (KL ++ [(k, qx, nx, dx, eqx)]).length from hnlen.symm] at hrow
      exact ⟨⟨i + m, 0, _, cp - m, vq, vc, KL ++ [(k, qx, nx, dx, eqx)], KT ++ [tx], by rw [hnlen], by omega, by omega, by rw [hnlen]; omega, hx.2.2.2.2.2.2, Lib.hid (fun h => absurd h (by omega)), Lib.hid hx.1, Lib.hid hx.2.1, Lib.hid hx.2.2.1, Lib.hid hrow, Lib.hid hx.2.2.2.2.1, Lib.hid ⟨fu2, by omega, hG2⟩, Lib.hid hx.2.2.2.2.2.1⟩, by rw [lenAt_of hx.1, lenAt_of HM.out]; omega⟩

  ·obtain rfl : r = 0 := by omega
   have HY : Hid (NzR l (KT, true, 0)) := Lib.hid (HYES.out KT (by
    obtain ⟨fu, _, h⟩ := hGf.out
    rw [List.drop_of_length_le (by rw [HTN.out]; omega)] at h
    rw [<- h]
    cases fu <;> simp [grpQ]))
   obtain ⟨hSQ, hKn, hKc⟩ := SlQ_of HOK.out HSK.out rfl
   have HZ := Lib.hid (And.intro hSQ (And.intro hKn hKc))
   clear hSQ hKn hKc
   go_wp2_with fail
   refine bodyPost_ret (v := .tuple #[.slice kq KL.length kc, .bool true, .int .i64 0]) (by simp [results, Tryd.results36, go_sem]) rfl ?_
   exact ⟨(KT, true, 0), kq, kc, HY.out, by rw [HZ.out.2.1], HZ.out.1, by rw [HZ.out.2.1]; exact HZ.out.2.2, HBW.out⟩
end Go.Proofs.YtbicmlkjonaccaaDoor.Ln
