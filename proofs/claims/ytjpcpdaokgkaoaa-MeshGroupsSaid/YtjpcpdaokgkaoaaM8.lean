/- Group of the reference. -/
import Derived.Test.YtjpcpdaokgkaoaaM7
namespace Go.Proofs.Ytjpcpdaokgkaoaa.Sh
open Go.ChangeShapes Go.WideShapes Go.ChangeAt Go.RowKit
set_option linter.unusedVariables false

set_option maxHeartbeats 16000000 in
theorem c42_ok (p : Option Addr) (zs : List Int) (c : Nat) (ax : Nat) (d : Int) (w : World) (RA : Hid (SlI w p zs)) (hp : cB zs d = true) (ha : ax < zs.length) :
    Calls Try.prog 42 #[.agg #[.slice p zs.length c], .int .i64 (ax : Int), .int .i64 d] w (OW (gr zs ax d (sp zs).toNat) w) := by
  obtain ⟨hm, a1, a2⟩ := cB_valid hp
  obtain ⟨h1, h3, hlow, s0, s1, hv⟩ := mok_facts hm
  have R1 := SlI.keep ((Below.refl _ _).alloc (Nat.le_refl _) (Obj.cells #[Value.slice p zs.length c] 41)) RA.out
  have R1 := Lib.hid R1
  have hcl : ∀ e, 0 ≤ e → e < sp zs → cB zs e = true ∧ cL zs e = pt zs e := fun e e0 e1 => by
    have hA : pA zs e = true := by
      unfold pA
      rw [sz_ok hv]
      exact decide_eq_true ⟨e0, e1⟩
    unfold cB cL pL
    rw [if_pos hm, if_pos hm, if_pos hA]
    exact ⟨hA, rfl⟩
  have C := Lib.hid fun (y : World) (h : SlI y p zs) => c34 p zs c d y (by unfold maxLen; omega) (Lib.hid h)
  rw [(hcl d a1 a2).1, (hcl d a1 a2).2] at C
  have F : Hid (∀ (y : World) (k : Nat), (k : Int) < sp zs → SlI y p zs → Calls Try.prog 34 #[.agg #[.slice p zs.length c], .int .i64 (k : Int)] y (PW (pt zs (k : Int)) true y)) := Lib.hid fun (y : World) (k : Nat) hk (h : SlI y p zs) => by
    have := c34 p zs c (k : Int) y (by unfold maxLen; omega) (Lib.hid h)
    rw [(hcl k (by omega) hk).1, (hcl k (by omega) hk).2] at this
    exact this
  have D := Lib.hid fun (y : World) (h : SlI y p zs) => c40 p zs c y (by unfold maxLen; omega) (Lib.hid h)
  rw [show dv zs = sp zs from if_pos hm] at D
  obtain ⟨P, hP⟩ : ∃ P, pt zs d = P := ⟨_, rfl⟩
  have pl := pt_length zs d
  rw [hP] at C pl
  have PE := Lib.hid hP
  have hPT := Lib.hid (fun k : Nat => pt_length zs (k : Int))
  obtain ⟨Z, hZ⟩ : ∃ Z, sp zs = Z := ⟨_, rfl⟩
  rw [hZ] at D F s0 s1 ⊢
  obtain ⟨n, hn⟩ : ∃ n, zs.length = n := ⟨_, rfl⟩
  have GS : Hid (∀ k, gr zs ax d (k + 1) = gr zs ax d k ++ if ag ax n P (pt zs (k : Int)) = true then [(k : Int)] else []) := Lib.hid fun k => by rw [gr_step, hP, hn]
  have GN := Lib.hid (fun k => gr_len zs ax d k)
  rw [hn] at C D F R1 h1 h3 ha pl hPT ⊢
  have PL := Lib.hid pl
  obtain ⟨i0, hi, hz0, hz1, hz2⟩ := info_parts info3
  clear hn hv hm hlow hp hP hZ a1 a2 pl hcl
  have x0 : (0 : Int) ≤ ax := by omega
  have x1 : (ax : Int) < n := by omega
  have q1 : decide ((ax : Int) < 0) = false := decide_eq_false (by omega)
  have q2 : decide ((n : Int) ≤ ax) = false := decide_eq_false (by omega)
  have q3 : decide (n ≤ ax) = false := decide_eq_false (by omega)
  go_enter Try.func42, Try.ntmps42
  go_wp2_with (go_at_call 34; refine (C.out _ R1.out).mono ?_; rintro e w' ⟨v, rfl, hb, ho⟩; obtain ⟨hx, hB⟩ := boxed hb; rw [PL.out] at ho; have HO := Lib.hid ho; obtain ⟨g, cap, rfl, hg, hcap⟩ := own_form HO.out (by omega); have hgl := (HO.out.lt g rfl).2; simp only [World.size_alloc] at hg; clear hb ho)
  go_loopw [9, 10] (fun v i wr => ∃ (k : Nat), i = .int .i64 k ∧ (k : Int) ≤ Z ∧ Below w.heap.size w wr ∧ w'.heap.size ≤ wr.heap.size ∧ wr.cell? ⟨w.heap.size, 0, none⟩ = some (.slice p n c) ∧ Hid (wr.ownsRow (w.heap.size + 1) 3 1 (.slice (some ⟨g, 0, none⟩) n cap) n (P.map (Value.int .i64))) ∧ Hid (wr.ownsRow w'.heap.size 3 1 v (gr zs ax d k).length ((gr zs ax d k).map (Value.int .i64)))) (fun _ i _ => (Z - intOf i).toNat)
  case atStart => exact ⟨0, rfl, by omega, hB, Nat.le_refl _, hx, Lib.hid (by have h := HO.out; simp only [World.size_alloc] at h; exact h), Lib.hid (World.ownsRow_nil _ _ _ _)⟩
  case round =>
    obtain ⟨k, rfl, hk, KB, hsz, hbx, hOp, hOl⟩ := hrel
    clear HO hx hB C R1
    have kz : (0 : Int) ≤ k := by omega
    have RW := Lib.hid (SlI.keep KB RA.out)
    by_cases hlt : (k : Int) < Z
    · have F1 := F.out
      go_wp2_with fail
      refine (D.out _ RW.out).mono ?_
      rintro e w2 ⟨rfl, hb2⟩
      have hbx2 : w2.cell? ⟨w.heap.size, 0, none⟩ = some (.slice p n c) := Rg.keep' hb2 (by show w.heap.size < _; omega) hbx
      have K2 : Below w.heap.size w w2 := KB.trans (hb2.mono KB.size)
      have R2 := Lib.hid (SlI.keep K2 RA.out)
      have F2 := Lib.hid (F1 w2 k hlt R2.out)
      have hs2 := hb2.size
      clear F1
      go_wp2_with fail
      refine (F2.out).mono ?_
      rintro e w3 ⟨v3, rfl, hb3, ho3⟩
      rw [hPT.out] at ho3
      have O3 := Lib.hid ho3
      obtain ⟨g3, cap3, rfl, hg3, hcap3⟩ := own_form O3.out (by omega)
      have hgl3 := (O3.out.lt g3 rfl).2
      have hs3 := hb3.size
      have hb23 : Below wr.heap.size wr w3 := hb2.trans (hb3.mono hs2)
      have K3 : Below w.heap.size w w3 := KB.trans (hb23.mono KB.size)
      have hbx3 : w3.cell? ⟨w.heap.size, 0, none⟩ = some (.slice p n c) := Rg.keep' hb23 (by show w.heap.size < _; omega) hbx
      have P3 := Lib.hid (own_below hOp.out hb23)
      have L3 := Lib.hid (own_below hOl.out hb23)
      clear hb2 hb3 hb23 ho3 hbx2 hbx hOp hOl K2 KB F2 R2 RW D F
      have PC : Hid (∀ j, j < n → w3.cell? ⟨g, j, none⟩ = some (.int .i64 (P.getD j 0))) := Lib.hid fun j hj => cells_of P3.out hj PL.out
      have QC : Hid (∀ j, j < n → w3.cell? ⟨g3, j, none⟩ = some (.int .i64 ((pt zs (k : Int)).getD j 0))) := Lib.hid fun j hj => cells_of O3.out hj (hPT.out k)
      have GS1 := Lib.hid (GS.out k)
      obtain ⟨Q, hQ⟩ : ∃ Q, pt zs (k : Int) = Q := ⟨_, rfl⟩
      rw [hQ] at QC GS1
      clear hQ GS
      go_wp2_with fail
      go_loopw [13, 14] (fun t i wr2 => ∃ (j m : Nat) (B : Bool), wr2 = w3.drewN m ∧ t = .bool B ∧ i = .int .i64 j ∧ j ≤ n ∧ Hid (B = ag ax j P Q)) (fun _ i _ => n - (intOf i).toNat)
      case atStart => exact ⟨0, 0, true, rfl, rfl, rfl, by omega, Lib.hid rfl⟩
      case round =>
        obtain ⟨j, m, B, rfl, rfl, rfl, hj, hB⟩ := hrel
        by_cases hjn : j < n
        · have pc := PC.out j hjn
          have qc := QC.out j hjn
          have hst := ag_step (ax := ax) (m := j) (P := P) (Q := Q)
          rw [← hB.out] at hst
          obtain ⟨x, hxx⟩ : ∃ x, P.getD j 0 = x := ⟨_, rfl⟩
          obtain ⟨y, hyy⟩ : ∃ y, Q.getD j 0 = y := ⟨_, rfl⟩
          rw [hxx] at pc hst
          rw [hyy] at qc hst
          have j0 : (0 : Int) ≤ j := by omega
          have j1 : (j : Int) < n := by omega
          clear hxx hyy hB
          cases B
          · have HS := Lib.hid hst
            clear hst
            go_wp2
            go_quiet (fail)
            go_wp2
            go_roundw
            case rel => exact ⟨j + 1, _, false, by first | rfl | rw [World.drewN_drewN], rfl, by go_num, by omega, Lib.hid (by rw [HS.out]; rfl)⟩
            case measure => simp [intOf]; omega
          · by_cases hja : j = ax
            · have e1 : ((j : Int) == (ax : Int)) = true := beq_iff_eq.2 (by omega)
              have e2 : (j == ax) = true := beq_iff_eq.2 hja
              rw [e2] at hst
              have HS := Lib.hid hst
              clear hst hja
              go_wp2
              go_quiet (fail)
              go_wp2
              go_roundw
              case rel => exact ⟨j + 1, _, true, by first | rfl | rw [World.drewN_drewN], rfl, by go_num, by omega, Lib.hid (by rw [HS.out]; rfl)⟩
              case measure => simp [intOf]; omega
            · have e1 : ((j : Int) == (ax : Int)) = false := beq_eq_false_iff_ne.2 (by omega)
              have e2 : (j == ax) = false := beq_eq_false_iff_ne.2 hja
              rw [e2] at hst
              obtain ⟨t, ht⟩ : ∃ t, (x == y) = t := ⟨_, rfl⟩
              rw [ht] at hst
              have HS := Lib.hid hst
              clear hst hja
              cases t
              all_goals
                go_wp2
                go_quiet (fail)
                go_wp2
                go_roundw
                case rel => exact ⟨j + 1, _, _, by first | rfl | rw [World.drewN_drewN], rfl, by go_num, by omega, Lib.hid (by rw [HS.out]; rfl)⟩
                case measure => simp [intOf]; omega
        · obtain rfl : j = n := by omega
          have KD : Below w.heap.size w (w3.drewN m) := below_drewN K3 m
          have hbxD : (w3.drewN m).cell? ⟨w.heap.size, 0, none⟩ = some (.slice p j c) := hbx3
          have PD : Hid ((w3.drewN m).ownsRow (w.heap.size + 1) 3 1 (.slice (some ⟨g, 0, none⟩) j cap) j (P.map (Value.int .i64))) := Lib.hid P3.out
          have LD : Hid ((w3.drewN m).ownsRow w'.heap.size 3 1 u9 (gr zs ax d k).length ((gr zs ax d k).map (Value.int .i64))) := Lib.hid L3.out
          have hsD : w'.heap.size ≤ (w3.drewN m).heap.size := by show _ ≤ w3.heap.size; omega
          clear K3 hbx3 P3 L3 O3 PC QC
          generalize w3.drewN m = wd at *
          rw [← hB.out] at GS1
          have GS2 := Lib.hid GS1.out
          clear hB GS1
          cases B
          · go_wp2
            go_roundw
            case rel => exact ⟨k + 1, by go_num, by omega, KD, hsD, hbxD, PD, by rw [GS2.out]; simpa using LD⟩
            case measure => simp [intOf]; omega
          · have gn := GN.out k
            go_wp2_with (at_builtin; refine wpList_append_own _ rfl _ _ 22 rfl w'.heap.size 3 i0 (.int .i64 0) 1 8 Try.underlying22 hi hz0 hz1 hz2 rfl (by decide) _ _ _ rfl (LD.out.alloc _) ⟨wd.heap.size, 0, none⟩ 1 1 [.int .i64 (k : Int)] rfl rfl ?_ ?_ ?_ ?_ ?_ ?_)
            any_goals (first | (intro j u hj; cases j with | zero => (cases hj; go_cell) | succ j => cases hj) | (intro u hu; cases List.mem_singleton.1 hu; rfl) | rfl | (unfold maxLen; omega) | omega | (simp; omega) | skip)
            intro v' w4 hown' hgrow _
            have hO4 : Hid (w4.ownsRow w'.heap.size 3 1 v' (gr zs ax d (k + 1)).length ((gr zs ax d (k + 1)).map (Value.int .i64))) := Lib.hid (by
              have h := hown'
              rw [GS2.out]
              simp only [if_true, List.map_append, List.length_append]
              exact h)
            have hlt2 := LD.out.lt
            have hgs := hgrow.size
            simp only [World.size_alloc] at hgs
            have hB3 : Below (w'.heap.size) (wd.alloc (Obj.cells #[Value.int .i64 k] 3)) w4 := (Below.refl _ _).grown hgrow (by simp; omega) (fun j hj => (hlt2 j hj).1)
            have hbx4 : w4.cell? ⟨w.heap.size, 0, none⟩ = some (.slice p j c) := by
              rw [hB3.cell (p := ⟨w.heap.size, 0, none⟩) (by show w.heap.size < _; omega)]
              exact Rg.keep' ((Below.refl _ _).alloc (Nat.le_refl _) _) (by omega) hbxD
            have K4 : Below w.heap.size w w4 := (KD.alloc (by omega) _).trans (hB3.mono (by omega))
            have O4 : Hid (w4.ownsRow (w.heap.size + 1) 3 1 (.slice (some ⟨g, 0, none⟩) j cap) j (P.map (Value.int .i64))) := Lib.hid ((PD.out.alloc _).kept hgrow (Or.inr fun e => by have := (hlt2 g e.symm).1; omega))
            clear hown' hgrow hi hz0 hz1 hz2 hlt2 hB3 hbxD LD PD KD GS2
            go_wp2
            go_roundw
            case rel => exact ⟨k + 1, by go_num, by omega, K4, by omega, hbx4, O4, hO4⟩
            case measure => simp [intOf]; omega
    · have e : Z.toNat = k := by omega
      go_wp2_with fail
      refine (D.out _ RW.out).mono ?_
      rintro e w2 ⟨rfl, hb2⟩
      have K2 : Below w.heap.size w w2 := KB.trans (hb2.mono KB.size)
      have L2 := Lib.hid ((own_below hOl.out hb2).mono (base' := w.heap.size) (by omega))
      have E := Lib.hid e
      clear hb2 e hOl KB
      go_wp2
      go_ret
      exact ⟨_, rfl, K2, by rw [E.out]; exact L2.out⟩
end Go.Proofs.Ytjpcpdaokgkaoaa.Sh
