/- Linear forms: Names. -/
import Derived.Test.YthdeaneffnlffaaY42
import Derived.Test.YthdeaneffnlffaaY27
namespace Go.Proofs.Ythdeaneffnlffaa.Ln
open Go.ChangeShapes Go.WideShapes Go.ChangeAt Go.RowKit
set_option linter.unusedVariables false
set_option linter.unusedSimpArgs false
open Go.Proofs.Ythdeaneffnlffaa.Nm
set_option maxRecDepth 100000 in
set_option maxHeartbeats 16000000 in
theorem names1 (p : Option Addr) (fs : List Fm) (c : Nat) (w : World) (hn : fs.length ≤ 50) (hx : Hid (∀ i, i < fs.length → (fs.getD i fm0).2.2.1.length ≤ 1000)) (RA : Hid (SlL w p fs)) :
    Calls Try.prog 26 #[.slice p fs.length c] w fun e w' => ∃ v L, e = .returned v ∧ w'.ownsRow w.heap.size 9 1 v L.length (stC L) ∧ Srt L ∧ (∀ x, x ∈ L ↔ x ∈ nms fs) ∧ L.length ≤ fs.length * 1000 ∧ Below w.heap.size w w' := by
  have CS := Lib.hid fun v ls u h1 h2 => sortS v ls w.heap.size u h1 h2
  have CC := Lib.hid fun v L u h1 h2 => compS v L w.heap.size u h1 h2
  obtain ⟨i0, hi, hz0, hz1, hz2⟩ := info_parts infoS
  go_enter Try.func26, Try.ntmps26
  go_wp2
  go_loopw [3, 10] (fun v i wr => ∃ j : Nat, i = .int .i64 (j : Int) ∧ j ≤ fs.length ∧ Below w.heap.size w wr ∧ Hid ((nms (fs.take j)).length ≤ j * 1000) ∧ Hid (wr.ownsRow w.heap.size 9 1 v (nms (fs.take j)).length (stC (nms (fs.take j))))) (fun _ i _ => fs.length - (intOf i).toNat)
  case atStart => exact ⟨0, rfl, by omega, Below.refl _ _, Lib.hid (by simp [nms]), Lib.hid (World.ownsRow_nil _ _ _ _)⟩
  case round =>
    obtain ⟨j, rfl, hj, hB, hlen, hO⟩ := hrel
    have j0 : (0 : Int) ≤ j := by omega
    by_cases hlt : j < fs.length
    · obtain ⟨b, o, rfl, c0, c1, c2⟩ := SlL.keep hB RA.out j hlt
      have hst := Lib.hid (nms_step hlt)
      have hx1 := hx.out j hlt
      obtain ⟨⟨kk, pp, xs, cc⟩, hf⟩ : ∃ f, fs.getD j fm0 = f := ⟨_, rfl⟩
      rw [hf] at c0 c1 c2 hx1
      replace hst := Lib.hid (by have h := hst.out; rw [hf] at h; exact h)
      simp only at c0 c1 c2 hx1
      have HF := Lib.hid hf
      clear hf
      have j1 : (j : Int) < fs.length := by omega
      have RX := Lib.hid c2
      have rx0 : SlM w (fs.getD j fm0).2.1 (fs.getD j fm0).2.2.1 := by obtain ⟨_, _, _, _, _, h⟩ := RA.out j hlt; exact h
      rw [HF.out] at rx0
      simp only at rx0
      have RX0 := Lib.hid rx0
      clear c2 rx0
      have BA := (Below.refl wr.heap.size wr).alloc (Nat.le_refl _) (Obj.cells #[Value.int .i64 kk, Value.slice pp xs.length cc] 24)
      have RX2 := Lib.hid (SlM.keep BA RX.out)
      have hB2 := hB.trans (BA.mono hB.size)
      have hO2 := Lib.hid (own_below hO.out BA)
      go_wp2_with fail
      clear c0 c1 RX BA hB hO
      generalize wr.alloc (Obj.cells #[Value.int .i64 kk, Value.slice pp xs.length cc] 24) = wo at *
      generalize nms (fs.take j) = NN at *
      go_loopw [3, 17] (fun v i wr => ∃ k : Nat, i = .int .i64 (k : Int) ∧ k ≤ xs.length ∧ Below w.heap.size w wr ∧ Hid (SlM wr pp xs) ∧ Hid (wr.ownsRow w.heap.size 9 1 v (NN ++ (xs.take k).map (·.1)).length (stC (NN ++ (xs.take k).map (·.1))))) (fun _ i _ => xs.length - (intOf i).toNat)
      case atStart => exact ⟨0, rfl, by omega, hB2, RX2, Lib.hid (by simpa using hO2.out)⟩
      case round =>
        clear hB2 hO2 RX2
        obtain ⟨k, rfl, hk, hB, RX, hO⟩ := hrel
        have k0 : (0 : Int) ≤ k := by omega
        by_cases hlk : k < xs.length
        · obtain ⟨b2, o2, rfl, d0, d1⟩ := RX.out k hlk
          have htk := Lib.hid (take_step hlk)
          obtain ⟨⟨t, a⟩, hxx⟩ : ∃ x, xs.getD k mo0 = x := ⟨_, rfl⟩
          rw [hxx] at d0 d1
          replace htk := Lib.hid (by have h := htk.out; rw [hxx] at h; exact h)
          simp only at d0 d1
          clear hxx
          have k1 : (k : Int) < xs.length := by omega
          have hll : (NN ++ (xs.take k).map (·.1)).length ≤ 60000 := by rw [List.length_append, List.length_map, List.length_take]; have := hlen.out; omega
          have hll2 : NN.length + k ≤ 60000 := by have := hlen.out; omega
          have OU := World.ownsRow.alloc (World.ownsRow.alloc hO.out (Obj.cells #[Value.string t, Value.int .i64 a] 55)) (Obj.cells #[Value.string t] 9)
          have KU := (hB.alloc hB.size (Obj.cells #[Value.string t, Value.int .i64 a] 55)).alloc (by have := hB.size; simp; omega) (Obj.cells #[Value.string t] 9)
          have RU := SlM.keep (two_below (w := wr) (Obj.cells #[Value.string t, Value.int .i64 a] 55) (Obj.cells #[Value.string t] 9)) RX.out
          go_wp2_with (at_builtin; refine wpList_append_own _ rfl _ _ 43 rfl w.heap.size 9 i0 (.string ⟨#[]⟩) 1 16 Try.underlying43 hi hz0 hz1 hz2 rfl (by decide) _ _ _ rfl OU ⟨wr.heap.size + 1, 0, none⟩ 1 1 [.string t] rfl rfl ?_ ?_ ?_ ?_ ?_ ?_)
          all_goals first
            | rfl
            | (unfold maxLen; omega)
            | omega
            | (have := hB.size; omega)
            | (intro q' x' hx'; rcases q' with _ | q' <;> first | (cases hx'; go_cell) | (simp at hx'))
            | (intro x' hx'; simp at hx'; subst hx'; rfl)
            | skip
          intro v' w4 hown' hgrow _
          have K4 := KU.grown hgrow KU.size (fun q' hq' => (OU.lt q' hq').1)
          have R4 : Hid (SlM w4 _ xs) := Lib.hid (SlM.keep K4 (RX0.out))
          have hO4 := Lib.hid (show w4.ownsRow w.heap.size 9 1 v' (NN ++ (xs.take (k + 1)).map (·.1)).length (stC (NN ++ (xs.take (k + 1)).map (·.1))) by
            have e : stC (NN ++ (xs.take (k + 1)).map (·.1)) = stC (NN ++ List.take k (xs.map (·.1))) ++ [.string t] := by rw [htk.out, List.map_append, List.map_cons, List.map_nil, ← List.append_assoc, stC_app, List.map_take]; rfl
            have e2 : (NN ++ (xs.take (k + 1)).map (·.1)).length = NN.length + k + 1 := by rw [List.length_append, List.length_map, List.length_take]; omega
            rw [e, e2]
            exact hown')
          clear hown' hgrow OU KU RU hO RX hi hz0 hz1 hz2 d0 d1
          go_wp2
          go_roundw
          case rel => exact ⟨k + 1, by go_num, by omega, K4, R4, hO4⟩
          case measure => simp [intOf]; omega
        · have k1 : ¬ (k : Int) < xs.length := by omega
          obtain rfl : k = xs.length := by omega
          have hO3 := Lib.hid (show wr.ownsRow w.heap.size 9 1 _ (nms (fs.take (j + 1))).length (stC (nms (fs.take (j + 1)))) by have h := hO.out; rw [List.take_length] at h; rw [hst.out]; exact h)
          have hl3 := Lib.hid (show (nms (fs.take (j + 1))).length ≤ (j + 1) * 1000 by rw [hst.out, List.length_append, List.length_map]; have := hlen.out; omega)
          go_wp2
          go_roundw
          case rel => exact ⟨j + 1, by go_num, by omega, hB, hl3, hO3⟩
          case measure => simp [intOf]; omega
    · have j1 : ¬ (j : Int) < fs.length := by omega
      obtain rfl : j = fs.length := by omega
      have hO2 := hO.out
      have hl2 := hlen.out
      rw [List.take_length] at hO2 hl2
      obtain ⟨NN, hNN⟩ : ∃ N, nms fs = N := ⟨_, rfl⟩
      rw [hNN] at hO2 hl2
      have HN := Lib.hid hNN
      have C1 := Lib.hid (CS.out _ NN wr hO2 (by omega))
      clear hNN hO hlen
      go_wp2_with fail
      refine C1.out.mono ?_
      rintro e w2 ⟨rfl, hO3, hg3⟩
      have K3 := hB.grown hg3 hB.size (fun q' hq' => (hO2.lt q' hq').1)
      rw [← enc_stC, ← srtS_len NN] at hO3
      have C2 := Lib.hid (CC.out _ (srtS NN) w2 hO3 (by rw [srtS_len]; omega))
      go_wp2_with fail
      refine C2.out.mono ?_
      rintro e w3 ⟨v', rfl, hO4, hg4⟩
      have K4 := K3.grown hg4 K3.size (fun q' hq' => (hO3.lt q' hq').1)
      rw [enc_stC] at hO4
      have hO5 : w3.ownsRow w.heap.size 9 1 v' (cmpS NN).length (stC (cmpS NN)) := by
        have e : (cmpS NN).length = (Lib.compact (srtS NN)).length := by unfold cmpS; rw [List.length_map]
        rw [e]
        exact hO4
      have HL := Lib.hid (show (cmpS NN).length ≤ fs.length * 1000 by unfold cmpS; rw [List.length_map]; have := compact_len (srtS NN); rw [srtS_len] at this; omega)
      go_wp2
      go_ret
      exact ⟨v', cmpS NN, rfl, hO5, cmpS_srt NN, fun x => by rw [cmpS_mem, HN.out], HL.out, K4⟩
end Go.Proofs.Ythdeaneffnlffaa.Ln
