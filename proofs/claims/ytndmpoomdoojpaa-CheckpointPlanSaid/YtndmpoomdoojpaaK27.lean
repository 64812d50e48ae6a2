/- The planner: reverse. -/
import Derived.Test.YtndmpoomdoojpaaRows
import Derived.WalkKit
import Derived.ProofKit
import Derived.OpenShut
import Derived.WalkLawsBesides
import Derived.WalkSpells
import Derived.Outline
import Derived.Handy
import Derived.IntWalk
import Derived.Deep.QuietTactic
import Derived.BigQuiet
import Derived.Lib.Hide
import Derived.Test.YtndmpoomdoojpaaK26
namespace Go.Proofs.Ytndmpoomdoojpaa.Ck
open Go.ChangeShapes Go.WideShapes Go.ChangeAt Go.RowKit
set_option linter.unusedVariables false

theorem PS.eq {w0 : World} {b N S : Nat} {xs ys : List Act3} {A : World} (h : PS w0 b N S xs A) (e : xs = ys) : PS w0 b N S ys A := e ▸ h
set_option maxRecDepth 100000 in
set_option maxHeartbeats 16000000 in
theorem rev1 (w0 : World) (b N S : Nat) (hN : N ≤ 64) (hS : S ≤ 64) : ∀ (m n f : Nat) (ni fi fr z nx : Int) (xs : List Act3) (w : World), n ≤ m → ni = (n : Int) → fi = (f : Int) → n ≤ N → f ≤ S → 0 ≤ fr → fr + (n : Int) ≤ 64 → 0 ≤ nx → nx + (f : Int) ≤ 64 → -1 ≤ z → z ≤ 64 → xs.length + (pl m fr n f z nx).length ≤ 60000 → Hid (PS w0 b N S xs w) →
    Calls Try.prog 54 #[.pointer (some ⟨b, 0, none⟩), .int .i64 fr, .int .i64 ni, .int .i64 fi, .int .i64 z, .int .i64 nx] w fun e w' => (∃ v, e = .returned v) ∧ PS w0 b N S (xs ++ pl m fr n f z nx) w'
  | 0, n, f, ni, fi, fr, z, nx, xs, w, hm, hni, hfi, hnN, hfS, h0, h1, hx, hxf, hz1, hz2, hl, hP => by
    obtain rfl : n = 0 := by omega
    obtain rfl : ni = 0 := by omega
    have HE := Lib.hid (hP.out.eq (show xs = xs ++ pl 0 fr 0 f z nx by rw [pl, List.append_nil]))
    clear hl hP hni
    go_enter Try.func54, Try.ntmps54
    go_wp2
    first | go_end0 | (refine bodyPost_ret (results_none rfl _ _ _) rfl ?_)
    exact ⟨⟨_, rfl⟩, HE.out⟩
  | m + 1, n, f, ni, fi, fr, z, nx, xs, w, hm, hni, hfi, hnN, hfS, h0, h1, hx, hxf, hzz1, hzz2, hl, hP => by
    by_cases n0 : n = 0
    · subst n0
      obtain rfl : ni = 0 := by omega
      have HE := Lib.hid (hP.out.eq (show xs = xs ++ pl (m + 1) fr 0 f z nx by rw [pl, if_pos rfl, List.append_nil]))
      clear hl hP hni
      go_enter Try.func54, Try.ntmps54
      go_wp2
      first | go_end0 | (refine bodyPost_ret (results_none rfl _ _ _) rfl ?_)
      exact ⟨⟨_, rfl⟩, HE.out⟩
    obtain ⟨i0, hi, hz0, hz1, hz2⟩ := info_parts info66
    by_cases n1 : n = 1
    · subst n1
      obtain rfl : ni = 1 := by omega
      have HE := Lib.hid (show xs ++ [(4, fr + 1, 0)] = xs ++ pl (m + 1) fr 1 f z nx by rw [pl, if_neg (by decide), if_pos rfl])
      have hl8 : xs.length ≤ 60000 := by omega
      have h1' : fr + 1 ≤ 64 := by omega
      clear hl hni h1
      go_enter Try.func54, Try.ntmps54
      obtain ⟨hB, hb, arr, v, hPL, hsz, hT, hv, hO⟩ := hP.out
      obtain ⟨ln, hln⟩ : ∃ nn, (xs).length = nn := ⟨_, rfl⟩
      rw [hln] at hO
      have HLL := Lib.hid hln
      have hl7 : ln ≤ 70000 := by omega
      obtain ⟨XX, hXX⟩ : ∃ X, xs = X := ⟨_, rfl⟩
      rw [hXX] at hO
      have HLL := Lib.hid (show XX.length = ln by rw [← hXX]; exact HLL.out)
      have HXX := Lib.hid hXX
      obtain ⟨q, c, rfl⟩ := own_form hO
      have c0 := (hPL.cell 4225).trans hv
      have hO1 := Lib.hid (hO.alloc (Obj.cells #[Value.int .i64 (4), Value.int .i64 (fr + 1), Value.int .i64 (0)] 66))
      have HA := Lib.hid (fun (w5 : World) (v' : Value) (hown' : w5.ownsRow w0.heap.size 66 3 v' (ln + 1) (acs XX ++ [.int .i64 (4), .int .i64 (fr + 1), .int .i64 (0)])) hg => PS.app (ys := [(4, fr + 1, 0)]) (N := N) (S := S) hB hb hPL hsz hT hN hS HLL.out hO (Obj.cells #[Value.int .i64 (4), Value.int .i64 (fr + 1), Value.int .i64 (0)] 66) hown' hg rfl rfl)
      have hbs := hB.size
      have HVV := Lib.hid hv
      clear hB hb hPL hsz hT hv hO hP hln hXX
      go_wp2_with (at_builtin; refine wpList_append_own _ rfl _ _ 39 rfl w0.heap.size 66 i0 (.agg #[.int .i64 0, .int .i64 0, .int .i64 0]) 3 24 Try.underlying39 hi hz0 hz1 hz2 rfl (by decide) _ _ _ rfl hO1.out ⟨w.heap.size, 0, none⟩ 1 1 [.int .i64 (4), .int .i64 (fr + 1), .int .i64 (0)] rfl rfl ?_ ?_ ?_ ?_ ?_ ?_)
      · intro q x hx
        rcases q with _ | _ | _ | q
        · cases hx; go_cell
        · cases hx; go_cell
        · cases hx; go_cell
        · simp at hx
      · intro x hx
        simp at hx
        rcases hx with rfl | rfl | rfl <;> rfl
      · unfold maxLen; omega
      · omega
      · simp; omega
      intro v' w5 hown' hgrow _
      obtain ⟨P5, PSn⟩ := HA.out w5 v' hown' hgrow
      have c5 := (P5.cell 4225).trans HVV.out
      have f5 := P5.fz 4225
      rw [← HXX.out] at PSn
      have HP2 := Lib.hid PSn
      obtain ⟨q', c', rfl⟩ := own_form hown'
      clear hown' hgrow hO1 HA P5 c0 HLL HVV hbs PSn
      go_wp2
      first | go_end0 | (refine bodyPost_ret (results_none rfl _ _ _) rfl ?_)
      exact ⟨⟨_, rfl⟩, by rw [← HE.out]; exact HP2.out⟩
    have t0 : decide (ni = 0) = false := decide_eq_false (by omega)
    have t1 : decide (ni = 1) = false := decide_eq_false (by omega)
    have b0 : (ni == 0) = false := beq_false_of_ne (by omega)
    have b1 : (ni == 1) = false := beq_false_of_ne (by omega)
    by_cases f0 : f = 0
    · subst f0
      obtain rfl : fi = 0 := by omega
      have HE := Lib.hid (show pl (m + 1) fr n 0 z nx = adv fr (n - 1) ++ ([(4, fr + (n : Int), 0), (3, fr, z)] ++ pl m fr (n - 1) 0 z nx) by rw [pl, if_neg n0, if_neg n1, if_pos rfl])
      rw [HE.out] at hl
      simp only [List.length_append, adv_len, List.length_cons, List.length_nil] at hl
      have A1 := Lib.hid (adv1 w0 b N S (n - 1) fr xs w hN hS h0 (by omega) (by omega) hP)
      rw [show fr + ((n - 1 : Nat) : Int) = fr + ni - 1 by omega] at A1
      have IH := Lib.hid (fun (u : World) (X : List Act3) (hX : X.length = xs.length + (n - 1) + 2) (hu : Hid (PS w0 b N S X u)) => rev1 w0 b N S hN hS m (n - 1) 0 (ni - 1) 0 fr z nx X u (by omega) (by omega) rfl (by omega) (by omega) h0 (by omega) hx (by omega) hzz1 hzz2 (by omega) hu)
      have hXl : (xs ++ adv fr (n - 1)).length = xs.length + (n - 1) := by rw [List.length_append, adv_len]
      have HXL := Lib.hid hXl
      have hl8 : xs.length + (n - 1) ≤ 60000 := by omega
      have HN2 := Lib.hid hni
      have nb0 : 0 ≤ ni ∧ ni ≤ 64 := by omega
      have nb1 : fr + ni ≤ 64 := by omega
      clear hP hXl hl hni hfi
      go_enter Try.func54, Try.ntmps54
      go_wp2_with fail
      refine A1.out.mono ?_
      rintro e w1 ⟨⟨v1, rfl⟩, hP1⟩
      have HP1 := Lib.hid hP1
      clear hP1
      obtain ⟨hB, hb, arr, v, hPL, hsz, hT, hv, hO⟩ := HP1.out
      obtain ⟨ln, hln⟩ : ∃ nn, (xs ++ adv fr (n - 1)).length = nn := ⟨_, rfl⟩
      rw [hln] at hO
      have HLL := Lib.hid hln
      have hl7 : ln ≤ 70000 := by have := HXL.out; omega
      obtain ⟨XX, hXX⟩ : ∃ X, xs ++ adv fr (n - 1) = X := ⟨_, rfl⟩
      rw [hXX] at hO
      have HLL := Lib.hid (show XX.length = ln by rw [← hXX]; exact HLL.out)
      have HXX := Lib.hid hXX
      obtain ⟨q, c, rfl⟩ := own_form hO
      have c0 := (hPL.cell 4225).trans hv
      have hO1 := Lib.hid (hO.alloc (Obj.cells #[Value.int .i64 (4), Value.int .i64 (fr + ni), Value.int .i64 (0), Value.int .i64 (3), Value.int .i64 (fr), Value.int .i64 (z)] 66))
      have HA := Lib.hid (fun (w5 : World) (v' : Value) (hown' : w5.ownsRow w0.heap.size 66 3 v' (ln + 2) (acs XX ++ [.int .i64 (4), .int .i64 (fr + ni), .int .i64 (0), .int .i64 (3), .int .i64 (fr), .int .i64 (z)])) hg => PS.app (ys := [(4, fr + ni, 0), (3, fr, z)]) (N := N) (S := S) hB hb hPL hsz hT hN hS HLL.out hO (Obj.cells #[Value.int .i64 (4), Value.int .i64 (fr + ni), Value.int .i64 (0), Value.int .i64 (3), Value.int .i64 (fr), Value.int .i64 (z)] 66) hown' hg rfl rfl)
      have hbs := hB.size
      have HVV := Lib.hid hv
      clear hB hb hPL hsz hT hv hO HP1 hln hXX
      go_wp2_with (at_builtin; refine wpList_append_own _ rfl _ _ 39 rfl w0.heap.size 66 i0 (.agg #[.int .i64 0, .int .i64 0, .int .i64 0]) 3 24 Try.underlying39 hi hz0 hz1 hz2 rfl (by decide) _ _ _ rfl hO1.out ⟨w1.heap.size, 0, none⟩ 2 2 [.int .i64 (4), .int .i64 (fr + ni), .int .i64 (0), .int .i64 (3), .int .i64 (fr), .int .i64 (z)] rfl rfl ?_ ?_ ?_ ?_ ?_ ?_)
      · intro q x hx
        rcases q with _ | _ | _ | _ | _ | _ | q
        · cases hx; go_cell
        · cases hx; go_cell
        · cases hx; go_cell
        · cases hx; go_cell
        · cases hx; go_cell
        · cases hx; go_cell
        · simp at hx
      · intro x hx
        simp at hx
        rcases hx with rfl | rfl | rfl | rfl | rfl | rfl <;> rfl
      · unfold maxLen; omega
      · omega
      · simp; omega
      intro v' w5 hown' hgrow _
      obtain ⟨P5, PSn⟩ := HA.out w5 v' hown' hgrow
      have c5 := (P5.cell 4225).trans HVV.out
      have f5 := P5.fz 4225
      rw [← HXX.out] at PSn
      have HP2 := Lib.hid PSn
      obtain ⟨q', c', rfl⟩ := own_form hown'
      clear hown' hgrow hO1 HA P5 c0 HLL HVV hbs PSn
      go_wp2_with fail
      refine (IH.out _ _ (by rw [List.length_append, HXL.out]; rfl) HP2).mono ?_
      rintro e w9 ⟨⟨v9, rfl⟩, hP9⟩
      have HP9 := Lib.hid hP9
      clear hP9
      go_wp2
      first | go_end0 | (refine bodyPost_ret (results_none rfl _ _ _) rfl ?_)
      refine ⟨⟨_, rfl⟩, HP9.out.eq ?_⟩
      rw [HE.out, ← HN2.out, List.append_assoc, List.append_assoc]
    · have t2 : decide (fi = 0) = false := decide_eq_false (by omega)
      have b2 : (fi == 0) = false := beq_false_of_ne (by omega)
      obtain ⟨k, hk⟩ : ∃ k, spl n f (n - 1) = k := ⟨_, rfl⟩
      have hkb := spl_bd n f (n - 1)
      have HE := Lib.hid (show pl (m + 1) fr n f z nx = adv fr k ++ ([(2, fr + (k : Int), nx)] ++ (pl m (fr + (k : Int)) (n - k) (f - 1) nx (nx + 1) ++ ([(3, fr, z)] ++ pl m fr k f z nx))) by rw [pl, if_neg n0, if_neg n1, if_neg f0, hk])
      rw [HE.out] at hl
      simp only [List.length_append, adv_len, List.length_cons, List.length_nil] at hl
      rw [hk] at hkb
      have SUM := Lib.hid (fun (u : World) (j : Nat) (hu : Hid (PS w0 b N S xs u)) (j1 : 1 ≤ j) (j2 : j ≤ n) => (by
        obtain ⟨_, _, arr, v, hPL, _, hT, _⟩ := hu.out
        have h := sum1 b arr N S j n f u hPL hT hN hS j1 j2 hnN (by omega) hfS
        rw [← hni, ← hfi] at h
        exact h : Calls Try.prog 72 #[.pointer (some ⟨b, 0, none⟩), .int .i64 (j : Int), .int .i64 ni, .int .i64 fi] u fun e w' => e = .returned (.int .i64 (sm n f j)) ∧ ∃ m, w' = u.drewN m))
      have A1 := Lib.hid (fun (u : World) (hu : Hid (PS w0 b N S xs u)) => adv1 w0 b N S k fr xs u hN hS h0 (by omega) (by omega) hu)
      obtain ⟨L1, hL1⟩ : ∃ L, pl m (fr + (k : Int)) (n - k) (f - 1) nx (nx + 1) = L := ⟨_, rfl⟩
      obtain ⟨L2, hL2⟩ : ∃ L, pl m fr k f z nx = L := ⟨_, rfl⟩
      have I1 := Lib.hid (fun (u : World) (X : List Act3) (hX : X.length = xs.length + k + 1) (hu : Hid (PS w0 b N S X u)) => rev1 w0 b N S hN hS m (n - k) (f - 1) (ni - (k : Int)) (fi - 1) (fr + (k : Int)) nx (nx + 1) X u (by omega) (by omega) (by omega) (by omega) (by omega) (by omega) (by omega) (by omega) (by omega) (by omega) (by omega) (by omega) hu)
      have I2 := Lib.hid (fun (u : World) (X : List Act3) (hX : X.length = xs.length + k + 1 + L1.length + 1) (hu : Hid (PS w0 b N S X u)) => rev1 w0 b N S hN hS m k f (k : Int) fi fr z nx X u (by omega) rfl hfi (by omega) hfS h0 (by omega) hx hxf hzz1 hzz2 (by rw [hL1] at hl; omega) hu)
      rw [hL1, hL2] at hl HE
      rw [hL1] at I1
      rw [hL2] at I2
      have HK := Lib.hid hk
      have SB := Lib.hid (fun j => spl_bd n f j)
      have HNI := Lib.hid hni
      have nb0 : 0 ≤ ni ∧ ni ≤ 64 := by omega
      have fb0 : 0 ≤ fi ∧ fi ≤ 64 := by omega
      have kb : (k : Int) ≤ 64 ∧ (1 : Int) ≤ k ∧ (k : Int) < ni := by omega
      have nb1 : fr + ni ≤ 64 := by omega
      have hll : xs.length + k + 1 + L1.length + 1 ≤ 60000 := by omega
      have hXl : (xs ++ adv fr k).length = xs.length + k := by rw [List.length_append, adv_len]
      have HXL := Lib.hid hXl
      clear hk hL1 hL2 hl hXl hni hfi hkb
      go_enter Try.func54, Try.ntmps54
      go_wp2
      go_loopw [12, 13] (fun sv kv wr => ∃ j : Nat, sv = .int .i64 ((spl n f j : Nat) : Int) ∧ kv = .int .i64 (1 + (j : Int)) ∧ j + 1 ≤ n ∧ Hid (PS w0 b N S xs wr)) (fun _ kv _ => (ni - intOf kv).toNat)
      case atStart => exact ⟨0, rfl, by first | rfl | simp, by omega, hP⟩
      case round =>
        obtain ⟨j, rfl, rfl, hj, HP⟩ := hrel
        obtain ⟨x, hx9⟩ : ∃ x, 1 + (j : Int) = x := ⟨_, rfl⟩
        have hx8 : x = ((j + 1 : Nat) : Int) := by omega
        have HX := Lib.hid hx8
        rw [hx9]
        by_cases hlt : j + 1 < n
        · have k1 : x < ni := by have := HNI.out; omega
          have x0 : 0 ≤ x ∧ x ≤ 64 := by have := HNI.out; omega
          have hsb := SB.out j
          have S1 := Lib.hid (SUM.out wr (j + 1) HP (by omega) (by omega))
          rw [← hx8] at S1
          obtain ⟨y, hy⟩ : ∃ y, spl n f j = y := ⟨_, rfl⟩
          rw [hy] at hsb ⊢
          have S2 := Lib.hid (fun mm => SUM.out (wr.drewN mm) y (Lib.hid (HP.out.drewN mm)) (by omega) (by omega))
          have hstep : spl n f (j + 1) = if sm n f (j + 1) < sm n f y then j + 1 else y := by rw [spl, hy]
          have HST := Lib.hid hstep
          obtain ⟨u1, hu1⟩ : ∃ u, sm n f (j + 1) = u := ⟨_, rfl⟩
          obtain ⟨u2, hu2⟩ : ∃ u, sm n f y = u := ⟨_, rfl⟩
          rw [hu1] at S1 HST
          rw [hu2] at S2 HST
          clear hx8 hx9 hy hstep hu1 hu2 hsb
          by_cases hc : u1 < u2
          · have d1 : decide (u1 < u2) = true := decide_eq_true hc
            have HS9 : Hid (spl n f (j + 1) = j + 1) := Lib.hid (HST.out.trans (if_pos hc))
            go_wp2_with fail
            refine S1.out.mono ?_
            rintro e w' ⟨rfl, m1, rfl⟩
            go_wp2_with fail
            refine (S2.out m1).mono ?_
            rintro e w' ⟨rfl, m2, rfl⟩
            have HP3 := Lib.hid (HP.out.drewN (m1 + m2))
            go_wp2
            go_roundw
            case rel => exact ⟨j + 1, by rw [HS9.out, HX.out], by have := HX.out; first | (congr 1; omega) | (go_num; omega), by omega, HP3⟩
            case measure => simp [intOf]; omega
          · have d1 : decide (u1 < u2) = false := decide_eq_false hc
            have HS9 : Hid (spl n f (j + 1) = y) := Lib.hid (HST.out.trans (if_neg hc))
            go_wp2_with fail
            refine S1.out.mono ?_
            rintro e w' ⟨rfl, m1, rfl⟩
            go_wp2_with fail
            refine (S2.out m1).mono ?_
            rintro e w' ⟨rfl, m2, rfl⟩
            have HP3 := Lib.hid (HP.out.drewN (m1 + m2))
            go_wp2
            go_roundw
            case rel => exact ⟨j + 1, by rw [HS9.out], by have := HX.out; first | (congr 1; omega) | (go_num; omega), by omega, HP3⟩
            case measure => simp [intOf]; omega
        · have k1 : ¬ x < ni := by have := HNI.out; omega
          have hjk : spl n f j = k := by rw [show j = n - 1 by omega]; exact HK.out
          rw [hjk]
          have A2 := Lib.hid (A1.out wr HP)
          clear hx8 hx9 hjk
          go_wp2_with fail
          refine A2.out.mono ?_
          rintro e w1 ⟨⟨v1, rfl⟩, hP1⟩
          have HP1 := Lib.hid hP1
          clear hP1 HP
          obtain ⟨hB, hb, arr, v, hPL, hsz, hT, hv, hO⟩ := HP1.out
          obtain ⟨ln, hln⟩ : ∃ nn, (xs ++ adv fr k).length = nn := ⟨_, rfl⟩
          rw [hln] at hO
          have HLL := Lib.hid hln
          have hl7 : ln ≤ 70000 := by have := HXL.out; omega
          obtain ⟨XX, hXX⟩ : ∃ X, xs ++ adv fr k = X := ⟨_, rfl⟩
          rw [hXX] at hO
          have HLL := Lib.hid (show XX.length = ln by rw [← hXX]; exact HLL.out)
          have HXX := Lib.hid hXX
          obtain ⟨q, c, rfl⟩ := own_form hO
          have c0 := (hPL.cell 4225).trans hv
          have hO1 := Lib.hid (hO.alloc (Obj.cells #[Value.int .i64 (2), Value.int .i64 (fr + (k : Int)), Value.int .i64 (nx)] 66))
          have HA := Lib.hid (fun (w5 : World) (v' : Value) (hown' : w5.ownsRow w0.heap.size 66 3 v' (ln + 1) (acs XX ++ [.int .i64 (2), .int .i64 (fr + (k : Int)), .int .i64 (nx)])) hg => PS.app (ys := [(2, fr + (k : Int), nx)]) (N := N) (S := S) hB hb hPL hsz hT hN hS HLL.out hO (Obj.cells #[Value.int .i64 (2), Value.int .i64 (fr + (k : Int)), Value.int .i64 (nx)] 66) hown' hg rfl rfl)
          have hbs := hB.size
          have HVV := Lib.hid hv
          clear hB hb hPL hsz hT hv hO HP1 hln hXX
          go_wp2_with (at_builtin; refine wpList_append_own _ rfl _ _ 39 rfl w0.heap.size 66 i0 (.agg #[.int .i64 0, .int .i64 0, .int .i64 0]) 3 24 Try.underlying39 hi hz0 hz1 hz2 rfl (by decide) _ _ _ rfl hO1.out ⟨w1.heap.size, 0, none⟩ 1 1 [.int .i64 (2), .int .i64 (fr + (k : Int)), .int .i64 (nx)] rfl rfl ?_ ?_ ?_ ?_ ?_ ?_)
          · intro q x hx
            rcases q with _ | _ | _ | q
            · cases hx; go_cell
            · cases hx; go_cell
            · cases hx; go_cell
            · simp at hx
          · intro x hx
            simp at hx
            rcases hx with rfl | rfl | rfl <;> rfl
          · unfold maxLen; omega
          · omega
          · simp; omega
          intro v' w5 hown' hgrow _
          obtain ⟨P5, PSn⟩ := HA.out w5 v' hown' hgrow
          have c5 := (P5.cell 4225).trans HVV.out
          have f5 := P5.fz 4225
          rw [← HXX.out] at PSn
          have HP2 := Lib.hid PSn
          obtain ⟨q', c', rfl⟩ := own_form hown'
          clear hown' hgrow hO1 HA P5 c0 HLL HVV hbs PSn
          go_wp2_with fail
          refine (I1.out _ _ (by rw [List.length_append, HXL.out]; rfl) HP2).mono ?_
          rintro e w2 ⟨⟨v2, rfl⟩, hP3⟩
          have HP3 := Lib.hid hP3
          have HXL3 : Hid ((xs ++ adv fr k ++ [(2, fr + (k : Int), nx)] ++ L1).length = xs.length + k + 1 + L1.length) := Lib.hid (by rw [List.length_append, List.length_append, HXL.out]; rfl)
          clear hP3
          obtain ⟨hB, hb, arr, v, hPL, hsz, hT, hv, hO⟩ := HP3.out
          obtain ⟨ln, hln⟩ : ∃ nn, (xs ++ adv fr k ++ [(2, fr + (k : Int), nx)] ++ L1).length = nn := ⟨_, rfl⟩
          rw [hln] at hO
          have HLL := Lib.hid hln
          have hl7 : ln ≤ 70000 := by have := HXL3.out; omega
          obtain ⟨XX, hXX⟩ : ∃ X, xs ++ adv fr k ++ [(2, fr + (k : Int), nx)] ++ L1 = X := ⟨_, rfl⟩
          rw [hXX] at hO
          have HLL := Lib.hid (show XX.length = ln by rw [← hXX]; exact HLL.out)
          have HXX := Lib.hid hXX
          obtain ⟨q, c, rfl⟩ := own_form hO
          have c0 := (hPL.cell 4225).trans hv
          have hO1 := Lib.hid (hO.alloc (Obj.cells #[Value.int .i64 (3), Value.int .i64 (fr), Value.int .i64 (z)] 66))
          have HA := Lib.hid (fun (w5 : World) (v' : Value) (hown' : w5.ownsRow w0.heap.size 66 3 v' (ln + 1) (acs XX ++ [.int .i64 (3), .int .i64 (fr), .int .i64 (z)])) hg => PS.app (ys := [(3, fr, z)]) (N := N) (S := S) hB hb hPL hsz hT hN hS HLL.out hO (Obj.cells #[Value.int .i64 (3), Value.int .i64 (fr), Value.int .i64 (z)] 66) hown' hg rfl rfl)
          have hbs := hB.size
          have HVV := Lib.hid hv
          clear hB hb hPL hsz hT hv hO HP3 hln hXX
          go_wp2_with (at_builtin; refine wpList_append_own _ rfl _ _ 39 rfl w0.heap.size 66 i0 (.agg #[.int .i64 0, .int .i64 0, .int .i64 0]) 3 24 Try.underlying39 hi hz0 hz1 hz2 rfl (by decide) _ _ _ rfl hO1.out ⟨w2.heap.size, 0, none⟩ 1 1 [.int .i64 (3), .int .i64 (fr), .int .i64 (z)] rfl rfl ?_ ?_ ?_ ?_ ?_ ?_)
          · intro q x hx
            rcases q with _ | _ | _ | q
            · cases hx; go_cell
            · cases hx; go_cell
            · cases hx; go_cell
            · simp at hx
          · intro x hx
            simp at hx
            rcases hx with rfl | rfl | rfl <;> rfl
          · unfold maxLen; omega
          · omega
          · simp; omega
          intro v' w5 hown' hgrow _
          obtain ⟨P5, PSn⟩ := HA.out w5 v' hown' hgrow
          have c5 := (P5.cell 4225).trans HVV.out
          have f5 := P5.fz 4225
          rw [← HXX.out] at PSn
          have HP4 := Lib.hid PSn
          obtain ⟨q', c', rfl⟩ := own_form hown'
          clear hown' hgrow hO1 HA P5 c0 HLL HVV hbs PSn
          go_wp2_with fail
          refine (I2.out _ _ (by rw [List.length_append, HXL3.out]; rfl) HP4).mono ?_
          rintro e w9 ⟨⟨v9, rfl⟩, hP9⟩
          have HP9 := Lib.hid hP9
          clear hP9
          go_wp2
          first | go_end0 | (refine bodyPost_ret (results_none rfl _ _ _) rfl ?_)
          refine ⟨⟨_, rfl⟩, HP9.out.eq ?_⟩
          rw [HE.out, List.append_assoc, List.append_assoc, List.append_assoc, List.append_assoc]
end Go.Proofs.Ytndmpoomdoojpaa.Ck
