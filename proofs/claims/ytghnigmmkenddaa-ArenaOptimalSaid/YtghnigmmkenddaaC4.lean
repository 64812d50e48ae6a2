/- Check. -/
import Derived.Test.YtghnigmmkenddaaC4m
namespace Go.Proofs.Ytghnigmmkenddaa.Ar
open Go.ChangeShapes Go.WideShapes Go.ChangeAt Go.RowKit
open Go.Proofs.Ytghnigmmkenddaa.Lv Go.Proofs.Ytghnigmmkenddaa.Nm
set_option linter.unusedVariables false
set_option linter.unusedSimpArgs false

set_option maxRecDepth 100000 in
set_option maxHeartbeats 8000000 in
/-- Check of the code. -/
theorem checkC (p p2 : Option Addr) (xs : List Lf) (ss : List St) (c c2 n m : Nat) (size : Int) (w : World) (HN : Hid (xs.length = n)) (HM : Hid (ss.length = m)) (hn : n ≤ 60) (hm : m ≤ 60) (hc2 : m ≤ c2) (RA : Hid (SlL w p xs)) (RS : Hid (∀ i, i < xs.length → (xs.getD i lf0).1.size ≤ maxLen)) (RB : Hid (SlS w p2 ss)) (BD : Hid (∀ i, i < m → -9223372036854775808 ≤ (ss.getD i st0).2.1 ∧ (ss.getD i st0).2.1 ≤ 9223372036854775807)) (z0 : -9223372036854775808 ≤ size) (z1 : size ≤ 9223372036854775807) :
    Calls Try.prog 15 #[.slice p n c, .slice p2 m c2, .int .i64 size] w fun e w' => e = .returned (.tuple #[.int .i64 (ckF xs ss size).1, .int .i64 (ckF xs ss size).2]) ∧ Below w.heap.size w w' := by
  have C := Lib.hid (pval p xs c w (by rw [HN.out]; exact hn) RA RS)
  have OV := Lib.hid over1
  unfold Lv4 at OV
  rw [HN.out] at C
  obtain ⟨RES, hRES⟩ : ∃ RES, ckF xs ss size = RES := ⟨_, rfl⟩
  rw [hRES]
  by_cases hv : vE xs = 0
  case neg =>
    have HR := Lib.hid (show (0, vE xs) = RES by rw [← hRES]; unfold ckF; rw [if_neg hv])
    obtain ⟨E, hE⟩ : ∃ E, vE xs = E := ⟨_, rfl⟩
    rw [hE] at C hv HR
    have e1 : (E != 0) = true := by simpa using hv
    clear hE hRES
    go_enter Try.func15, Try.ntmps15
    go_wp2_with (go_at_call 19; (with_reducible refine C.out.mono ?_); rintro e w1 ⟨rfl, B1⟩)
    refine bodyPost_ret (v := .tuple #[.int .i64 0, .int .i64 E]) (by simp [results, Try.results15, go_sem]) rfl ?_
    exact ⟨ret_two HR.out, B1⟩
  have HV := Lib.hid hv
  rw [hv] at C
  by_cases hnm : n = m
  case neg =>
    have HR := Lib.hid (show ((0 : Int), (15 : Int)) = RES by rw [← hRES]; unfold ckF; rw [if_pos hv, if_neg (by rw [HN.out, HM.out]; exact hnm)])
    have e1 : ((n : Int) == (m : Int)) = false := by rw [beq_eq_false_iff_ne]; omega
    have e2 : ((n : Int) != (m : Int)) = true := by rw [bne, e1]; rfl
    have e3 : ¬ (n : Int) = m := by omega
    clear hv hRES
    go_enter Try.func15, Try.ntmps15
    go_wp2_with (go_at_call 19; (with_reducible refine C.out.mono ?_); rintro e w1 ⟨rfl, B1⟩)
    refine bodyPost_ret (v := .tuple #[.int .i64 0, .int .i64 15]) (by simp [results, Try.results15, go_sem]) rfl ?_
    exact ⟨ret_two HR.out, B1⟩
  subst hnm
  have HR0 := Lib.hid (show ckG xs ss size n 0 = RES by rw [← hRES]; unfold ckF; rw [if_pos hv, if_pos (by rw [HN.out, HM.out]), HN.out])
  clear hv hRES
  go_enter Try.func15, Try.ntmps15
  go_wp2_with (go_at_call 19; (with_reducible refine C.out.mono ?_); rintro e w1 ⟨rfl, B1⟩)
  have HB1 := Lib.hid B1
  clear B1
  go_loopw [25] (fun iv wr => ∃ i : Nat, iv = .int .i64 (i : Int) ∧ i ≤ n ∧ Hid (ckG xs ss size (n - i) i = RES) ∧ Hid (∀ k, k < i → ck1 xs ss size k = 0) ∧ Hid (Below w.heap.size w wr)) (fun iv _ => n - (intOf iv).toNat)
  case atStart => exact ⟨0, rfl, Nat.zero_le _, HR0, Lib.hid fun k h => absurd h (Nat.not_lt_zero _), HB1⟩
  case round =>
    clear HB1 HR0
    obtain ⟨i, rfl, hin, HR, HP, hB⟩ := hrel
    obtain ⟨w0, hw0⟩ : ∃ w0, w0 = wr := ⟨_, rfl⟩
    subst hw0
    by_cases hlt : i < n
    case neg =>
      obtain rfl : i = n := by omega
      have i1 : ¬ (i : Int) < i := by omega
      have HE : Hid (((0 : Int), (0 : Int)) = RES) := Lib.hid (by have h := HR.out; rw [Nat.sub_self] at h; exact h)
      go_wp2_with fail
      refine bodyPost_ret (v := .tuple #[.int .i64 0, .int .i64 0]) (by simp [results, Try.results15, go_sem]) rfl ?_
      exact ⟨ret_two HE.out, hB.out⟩
    have HRS : Hid (n - i = (n - i - 1) + 1) := Lib.hid (by omega)
    obtain ⟨b, o, rfl, hbw, c0', c1', c2', c3'⟩ := SlL_at RA.out HN.out hlt
    obtain ⟨b2, o2, rfl, hbw2, d0', d1', d2'⟩ := SlS_at RB.out HM.out hlt
    have c0 := kpb hB.out hbw c0'
    have c1 := kpb hB.out hbw c1'
    have c2_ := kpb hB.out hbw c2'
    have c3 := kpb hB.out hbw c3'
    have d0 := kpb hB.out hbw2 d0'
    have d1 := kpb hB.out hbw2 d1'
    have d2 := kpb hB.out hbw2 d2'
    have hvi := valid_at HV.out (i := i) (by rw [HN.out]; exact hlt)
    have hbd := BD.out i hlt
    obtain ⟨x, hx⟩ : ∃ x, xs.getD i lf0 = x := ⟨_, rfl⟩
    obtain ⟨s, hs⟩ : ∃ s, ss.getD i st0 = s := ⟨_, rfl⟩
    have HX := Lib.hid hx
    have HS0 := Lib.hid hs
    rw [hx] at c0 c1 c2_ c3 c0' c1' c2' c3' hvi
    rw [hs] at d0 d1 d2 hbd
    obtain ⟨sn, sa, sl⟩ := s
    simp only at d0 d1 d2 hbd
    obtain ⟨bd0, bd1⟩ := hbd
    obtain ⟨q1, hq1⟩ : ∃ q, (sn.toList == x.1.toList) = q := ⟨_, rfl⟩
    obtain ⟨q2, hq2⟩ : ∃ q, (sl == x.2.2.2) = q := ⟨_, rfl⟩
    have HQ1 : Hid (((ss.getD i st0).1.toList == (xs.getD i lf0).1.toList) = q1) := Lib.hid (by rw [HX.out, HS0.out]; exact hq1)
    have HQ2 : Hid (((ss.getD i st0).2.2 == (xs.getD i lf0).2.2.2) = q2) := Lib.hid (by rw [HX.out, HS0.out]; exact hq2)
    have HC0 := Lib.hid (And.intro c0' (And.intro c1' (And.intro c2' c3')))
    have HVI := Lib.hid hvi
    clear hx hs c0' c1' c2' c3' d0' d1' d2' hvi
    have i0' : (0 : Int) ≤ i := by omega
    have i1 : (i : Int) < n := by omega
    have i2 : (i : Int) ≤ c2 := by omega
    have lb : b < w0.heap.size := by have := hB.out.size; omega
    have nb : ¬ w0.heap.size = b := by omega
    have BA := Lib.hid (hB.out.alloc (by have := hB.out.size; omega) (Obj.cells #[.string sn, .int .i64 sa, .int .i64 sl] 39))
    have g0 : (w0.alloc (Obj.cells #[.string sn, .int .i64 sa, .int .i64 sl] 39)).cell? ⟨w0.heap.size, 0, none⟩ = some (.string sn) := by go_cell
    have g1 : (w0.alloc (Obj.cells #[.string sn, .int .i64 sa, .int .i64 sl] 39)).cell? ⟨w0.heap.size, 1, none⟩ = some (.int .i64 sa) := by go_cell
    have g2 : (w0.alloc (Obj.cells #[.string sn, .int .i64 sa, .int .i64 sl] 39)).cell? ⟨w0.heap.size, 2, none⟩ = some (.int .i64 sl) := by go_cell
    have g3 : (w0.alloc (Obj.cells #[.string sn, .int .i64 sa, .int .i64 sl] 39)).cell? ⟨b, o + i * 4, none⟩ = some (.string x.1) := by go_cell
    have g4 : (w0.alloc (Obj.cells #[.string sn, .int .i64 sa, .int .i64 sl] 39)).cell? ⟨b, o + i * 4 + 3, none⟩ = some (.int .i64 x.2.2.2) := by go_cell
    go_upto_region 9 with fail
    obtain ⟨W1, hW1⟩ : ∃ W1, (w0.alloc (Obj.cells #[.string sn, .int .i64 sa, .int .i64 sl] 39)) = W1 := ⟨_, rfl⟩
    have HW1 : Hid (W1.heap.size = w0.heap.size + 1) := Lib.hid (by rw [← hW1]; simp)
    have lsz : w0.heap.size < W1.heap.size := by have := HW1.out; omega
    rw [hW1] at BA g0 g1 g2 g3 g4 ⊢
    have HG := Lib.hid (And.intro g0 (And.intro g1 g2))
    clear c0 c1 c2_ c3 d0 d1 d2 hW1 hB
    cases q1
    case false =>
      have HF := Lib.hid (show ((i : Int), (1 : Int)) = RES by rw [← HR.out, HRS.out, ckG_stop (ck1_a (.inl HQ1.out)) (by decide)])
      go_quiet (fail)
      go_wp2_with fail
      refine bodyPost_ret (v := .tuple #[.int .i64 (i : Int), .int .i64 1]) (by simp [results, Try.results15, go_sem]) rfl ?_
      exact ⟨ret_two HF.out, below_drewN BA.out _⟩
    cases q2
    case false =>
      have HF := Lib.hid (show ((i : Int), (1 : Int)) = RES by rw [← HR.out, HRS.out, ckG_stop (ck1_a (.inr HQ2.out)) (by decide)])
      go_quiet (fail)
      go_wp2_with fail
      refine bodyPost_ret (v := .tuple #[.int .i64 (i : Int), .int .i64 1]) (by simp [results, Try.results15, go_sem]) rfl ?_
      exact ⟨ret_two HF.out, below_drewN BA.out _⟩
    have hsl : sl = x.2.2.2 := by simpa using hq2
    have sl0 : 1 ≤ sl := by have := HVI.out; omega
    have sl1 : sl ≤ 4096 := by have := HVI.out; omega
    have HSL := Lib.hid hsl
    have hq3 : (sl != x.2.2.2) = false := by rw [bne, hq2]; rfl
    clear hsl
    go_quiet (fail)
    have W2 : ∃ W2, W2 = W1.drewN nq := ⟨_, rfl⟩
    obtain ⟨W2, hW2⟩ := W2
    rw [← hW2]
    have BA2 : Hid (Below w.heap.size w W2) := Lib.hid (by rw [hW2]; exact below_drewN BA.out nq)
    have e0 : W2.cell? ⟨w0.heap.size, 0, none⟩ = some (.string sn) := by rw [hW2]; exact g0
    have e1 : W2.cell? ⟨w0.heap.size, 1, none⟩ = some (.int .i64 sa) := by rw [hW2]; exact g1
    have e2 : W2.cell? ⟨w0.heap.size, 2, none⟩ = some (.int .i64 sl) := by rw [hW2]; exact g2
    have lsz2 : w0.heap.size < W2.heap.size := by rw [hW2]; exact lsz
    clear hW2 g0 g1 g2 g3 g4 HG BA lsz HW1
    have HQA : ∀ (v : Int), ck1 xs ss size i = v → v ≠ 0 → ((i : Int), v) = RES := fun v h hv => by rw [← HR.out, HRS.out, ckG_stop h hv]
    have HQA := Lib.hid HQA
    by_cases k1 : sa < 0
    case pos =>
      have HF := Lib.hid (HQA.out _ (ck1_b HQ1.out HQ2.out (.inl (by rw [HS0.out]; exact k1))) (by decide))
      go_wp2_with fail
      refine bodyPost_ret (v := .tuple #[.int .i64 (i : Int), .int .i64 22]) (by simp [results, Try.results15, go_sem]) rfl ?_
      exact ⟨ret_two HF.out, BA2.out⟩
    by_cases k2 : size < sl
    case pos =>
      have HF := Lib.hid (HQA.out _ (ck1_b HQ1.out HQ2.out (.inr (.inl (by rw [HS0.out]; exact k2)))) (by decide))
      go_wp2_with fail
      refine bodyPost_ret (v := .tuple #[.int .i64 (i : Int), .int .i64 22]) (by simp [results, Try.results15, go_sem]) rfl ?_
      exact ⟨ret_two HF.out, BA2.out⟩
    have sz0 : 1 ≤ size := by omega
    by_cases k3 : size - sl < sa
    case pos =>
      have HF := Lib.hid (HQA.out _ (ck1_b HQ1.out HQ2.out (.inr (.inr (by rw [HS0.out]; exact k3)))) (by decide))
      go_wp2_with fail
      refine bodyPost_ret (v := .tuple #[.int .i64 (i : Int), .int .i64 22]) (by simp [results, Try.results15, go_sem]) rfl ?_
      exact ⟨ret_two HF.out, BA2.out⟩
    have HK3 : Hid (¬ ((ss.getD i st0).2.1 < 0 ∨ size < (ss.getD i st0).2.2 ∨ size - (ss.getD i st0).2.2 < (ss.getD i st0).2.1)) := Lib.hid (by rw [HS0.out]; show ¬ (sa < 0 ∨ size < sl ∨ size - sl < sa); omega)
    have sa0 : 0 ≤ sa := by omega
    have sa1 : sa + sl ≤ size := by omega
    have HE := Lib.hid (And.intro e0 (And.intro e1 e2))
    have i3 : (i : Int) ≤ n := by omega
    go_wp2_with fail
    clear e0 e1 e2 hq1 hq2 hq3
    go_loopw [74] (fun iv wr => ∃ k : Nat, iv = .int .i64 (k : Int) ∧ k ≤ i ∧ Hid (∀ k', k' < k → ckp xs ss i k' = false) ∧ Hid (Below W2.heap.size W2 wr)) (fun iv _ => i - (intOf iv).toNat)
    case atStart => exact ⟨0, rfl, Nat.zero_le _, Lib.hid fun k h => absurd h (Nat.not_lt_zero _), Lib.hid (Below.refl _ _)⟩
    case round =>
      obtain ⟨k, rfl, hki, HC, hBk⟩ := hrel
      obtain ⟨wk, hwk⟩ : ∃ wk, wk = wr := ⟨_, rfl⟩
      subst hwk
      have HBW : Hid (Below w.heap.size w wk) := Lib.hid (BA2.out.trans (hBk.out.mono BA2.out.size))
      have lsk := hBk.out.size
      by_cases hlk : k < i
      case neg =>
        obtain rfl : k = i := by omega
        have j1 : ¬ (k : Int) < k := by omega
        have H0 := Lib.hid (ck1_e HQ1.out HQ2.out HK3.out HC.out)
        have HRN : Hid (ckG xs ss size (n - (k + 1)) (k + 1) = RES) := Lib.hid (by have h := HR.out; rw [HRS.out, ckG_next H0.out] at h; rw [show n - (k + 1) = n - k - 1 by omega]; exact h)
        have HPN : Hid (∀ k', k' < k + 1 → ck1 xs ss size k' = 0) := Lib.hid fun k' h => by
          rcases Nat.lt_or_eq_of_le (Nat.le_of_lt_succ h) with h1 | rfl
          · exact HP.out k' h1
          · exact H0.out
        go_wp2_with fail
        go_roundw
        case rel => exact ⟨k + 1, by go_num, by omega, HRN, HPN, HBW⟩
        case measure => simp [intOf]; omega
      have hkn : k < n := by omega
      obtain ⟨b', o', e, _, y0, y1, y2, y3⟩ := SlL_at RA.out HN.out hkn
      cases e
      obtain ⟨b'', o'', e, _, t0, t1, t2⟩ := SlS_at RB.out HM.out hkn
      cases e
      have hok := ck1_ok (HP.out k hlk)
      obtain ⟨y, hy⟩ : ∃ y, xs.getD k lf0 = y := ⟨_, rfl⟩
      obtain ⟨t, ht⟩ : ∃ t, ss.getD k st0 = t := ⟨_, rfl⟩
      have HY := Lib.hid hy
      have HT0 := Lib.hid ht
      rw [hy] at y0 y1 y2 y3
      rw [ht] at t0 t1 t2 hok
      obtain ⟨on, oa, ol⟩ := t
      simp only at t0 t1 t2 hok
      obtain ⟨_, hol, oa0, oa1, oa2, _⟩ := hok
      have hvk := valid_at HV.out (i := k) (by rw [HN.out]; exact hkn)
      have ol0 : 1 ≤ ol := by rw [hol]; omega
      have ol1 : ol ≤ 4096 := by rw [hol]; omega
      clear hol hvk hy ht
      have t0 := kpb HBW.out hbw2 t0
      have t1 := kpb HBW.out hbw2 t1
      have t2 := kpb HBW.out hbw2 t2
      have y0 := kpb HBW.out hbw y0
      have y1 := kpb HBW.out hbw y1
      have y2 := kpb HBW.out hbw y2
      have y3 := kpb HBW.out hbw y3
      have x0 := kpb HBW.out hbw HC0.out.1
      have x1 := kpb HBW.out hbw HC0.out.2.1
      have x2 := kpb HBW.out hbw HC0.out.2.2.1
      have x3 := kpb HBW.out hbw HC0.out.2.2.2
      have e0 := kpb hBk.out lsz2 HE.out.1
      have e1 := kpb hBk.out lsz2 HE.out.2.1
      have e2 := kpb hBk.out lsz2 HE.out.2.2
      have k0 : (0 : Int) ≤ k := by omega
      have k1' : (k : Int) < i := by omega
      have k2' : (k : Int) < n := by omega
      have hws := HBW.out.size
      have nb1 : ¬ wk.heap.size = b := by omega
      have nb2 : ¬ wk.heap.size = w0.heap.size := by omega
      have nb3 : b < wk.heap.size := by omega
      have nb4 : w0.heap.size < wk.heap.size := by omega
      have BO : Hid (Below W2.heap.size W2 (wk.alloc (Obj.cells #[.string on, .int .i64 oa, .int .i64 ol] 39))) := Lib.hid (hBk.out.alloc lsk _)
      have BO2 : Hid (Below w.heap.size w (wk.alloc (Obj.cells #[.string on, .int .i64 oa, .int .i64 ol] 39))) := Lib.hid (HBW.out.alloc hws _)
      have qx0 : (wk.alloc (Obj.cells #[.string on, .int .i64 oa, .int .i64 ol] 39)).cell? ⟨b, o + i * 4, none⟩ = some (.string x.1) := by go_cell
      have qx1 : (wk.alloc (Obj.cells #[.string on, .int .i64 oa, .int .i64 ol] 39)).cell? ⟨b, o + i * 4 + 1, none⟩ = some (.int .i64 x.2.1) := by go_cell
      have qx2 : (wk.alloc (Obj.cells #[.string on, .int .i64 oa, .int .i64 ol] 39)).cell? ⟨b, o + i * 4 + 2, none⟩ = some (.int .i64 x.2.2.1) := by go_cell
      have qx3 : (wk.alloc (Obj.cells #[.string on, .int .i64 oa, .int .i64 ol] 39)).cell? ⟨b, o + i * 4 + 3, none⟩ = some (.int .i64 x.2.2.2) := by go_cell
      have qy0 : (wk.alloc (Obj.cells #[.string on, .int .i64 oa, .int .i64 ol] 39)).cell? ⟨b, o + k * 4, none⟩ = some (.string y.1) := by go_cell
      have qy1 : (wk.alloc (Obj.cells #[.string on, .int .i64 oa, .int .i64 ol] 39)).cell? ⟨b, o + k * 4 + 1, none⟩ = some (.int .i64 y.2.1) := by go_cell
      have qy2 : (wk.alloc (Obj.cells #[.string on, .int .i64 oa, .int .i64 ol] 39)).cell? ⟨b, o + k * 4 + 2, none⟩ = some (.int .i64 y.2.2.1) := by go_cell
      have qy3 : (wk.alloc (Obj.cells #[.string on, .int .i64 oa, .int .i64 ol] 39)).cell? ⟨b, o + k * 4 + 3, none⟩ = some (.int .i64 y.2.2.2) := by go_cell
      have qs0 : (wk.alloc (Obj.cells #[.string on, .int .i64 oa, .int .i64 ol] 39)).cell? ⟨w0.heap.size, 0, none⟩ = some (.string sn) := by go_cell
      have qs1 : (wk.alloc (Obj.cells #[.string on, .int .i64 oa, .int .i64 ol] 39)).cell? ⟨w0.heap.size, 1, none⟩ = some (.int .i64 sa) := by go_cell
      have qs2 : (wk.alloc (Obj.cells #[.string on, .int .i64 oa, .int .i64 ol] 39)).cell? ⟨w0.heap.size, 2, none⟩ = some (.int .i64 sl) := by go_cell
      have qo0 : (wk.alloc (Obj.cells #[.string on, .int .i64 oa, .int .i64 ol] 39)).cell? ⟨wk.heap.size, 0, none⟩ = some (.string on) := by go_cell
      have qo1 : (wk.alloc (Obj.cells #[.string on, .int .i64 oa, .int .i64 ol] 39)).cell? ⟨wk.heap.size, 1, none⟩ = some (.int .i64 oa) := by go_cell
      have qo2 : (wk.alloc (Obj.cells #[.string on, .int .i64 oa, .int .i64 ol] 39)).cell? ⟨wk.heap.size, 2, none⟩ = some (.int .i64 ol) := by go_cell
      go_upto_region 16 with fail
      obtain ⟨wq, hwq⟩ : ∃ wq, wq = (wk.alloc (Obj.cells #[.string on, .int .i64 oa, .int .i64 ol] 39)) := ⟨_, rfl⟩
      rw [← hwq] at BO BO2 qx0 qx1 qx2 qx3 qy0 qy1 qy2 qy3 qs0 qs1 qs2 qo0 qo1 qo2 ⊢
      clear hwq t0 t1 t2 y0 y1 y2 y3 x0 x1 x2 x3 e0 e1 e2
      have hz16 : wq.drew.cell? ⟨b, o + i * 4, none⟩ = some (.string x.1) ∧ wq.drew.cell? ⟨b, o + i * 4 + 1, none⟩ = some (.int .i64 x.2.1) ∧ wq.drew.cell? ⟨b, o + i * 4 + 2, none⟩ = some (.int .i64 x.2.2.1) ∧ wq.drew.cell? ⟨b, o + i * 4 + 3, none⟩ = some (.int .i64 x.2.2.2) ∧ wq.drew.cell? ⟨b, o + k * 4, none⟩ = some (.string y.1) ∧ wq.drew.cell? ⟨b, o + k * 4 + 1, none⟩ = some (.int .i64 y.2.1) ∧ wq.drew.cell? ⟨b, o + k * 4 + 2, none⟩ = some (.int .i64 y.2.2.1) ∧ wq.drew.cell? ⟨b, o + k * 4 + 3, none⟩ = some (.int .i64 y.2.2.2) ∧ wq.drew.cell? ⟨w0.heap.size, 0, none⟩ = some (.string sn) ∧ wq.drew.cell? ⟨w0.heap.size, 1, none⟩ = some (.int .i64 sa) ∧ wq.drew.cell? ⟨w0.heap.size, 2, none⟩ = some (.int .i64 sl) ∧ wq.drew.cell? ⟨wk.heap.size, 0, none⟩ = some (.string on) ∧ wq.drew.cell? ⟨wk.heap.size, 1, none⟩ = some (.int .i64 oa) ∧ wq.drew.cell? ⟨wk.heap.size, 2, none⟩ = some (.int .i64 ol) ∧ Below wq.heap.size wq wq.drew := ⟨qx0, qx1, qx2, qx3, qy0, qy1, qy2, qy3, qs0, qs1, qs2, qo0, qo1, qo2, (Below.refl _ _).drew⟩
      have HS : Hid (∀ u u' : World, (u.cell? ⟨b, o + i * 4, none⟩ = some (.string x.1) ∧ u.cell? ⟨b, o + i * 4 + 1, none⟩ = some (.int .i64 x.2.1) ∧ u.cell? ⟨b, o + i * 4 + 2, none⟩ = some (.int .i64 x.2.2.1) ∧ u.cell? ⟨b, o + i * 4 + 3, none⟩ = some (.int .i64 x.2.2.2) ∧ u.cell? ⟨b, o + k * 4, none⟩ = some (.string y.1) ∧ u.cell? ⟨b, o + k * 4 + 1, none⟩ = some (.int .i64 y.2.1) ∧ u.cell? ⟨b, o + k * 4 + 2, none⟩ = some (.int .i64 y.2.2.1) ∧ u.cell? ⟨b, o + k * 4 + 3, none⟩ = some (.int .i64 y.2.2.2) ∧ u.cell? ⟨w0.heap.size, 0, none⟩ = some (.string sn) ∧ u.cell? ⟨w0.heap.size, 1, none⟩ = some (.int .i64 sa) ∧ u.cell? ⟨w0.heap.size, 2, none⟩ = some (.int .i64 sl) ∧ u.cell? ⟨wk.heap.size, 0, none⟩ = some (.string on) ∧ u.cell? ⟨wk.heap.size, 1, none⟩ = some (.int .i64 oa) ∧ u.cell? ⟨wk.heap.size, 2, none⟩ = some (.int .i64 ol) ∧ Below wq.heap.size wq u) → Below u.heap.size u u' → (u'.cell? ⟨b, o + i * 4, none⟩ = some (.string x.1) ∧ u'.cell? ⟨b, o + i * 4 + 1, none⟩ = some (.int .i64 x.2.1) ∧ u'.cell? ⟨b, o + i * 4 + 2, none⟩ = some (.int .i64 x.2.2.1) ∧ u'.cell? ⟨b, o + i * 4 + 3, none⟩ = some (.int .i64 x.2.2.2) ∧ u'.cell? ⟨b, o + k * 4, none⟩ = some (.string y.1) ∧ u'.cell? ⟨b, o + k * 4 + 1, none⟩ = some (.int .i64 y.2.1) ∧ u'.cell? ⟨b, o + k * 4 + 2, none⟩ = some (.int .i64 y.2.2.1) ∧ u'.cell? ⟨b, o + k * 4 + 3, none⟩ = some (.int .i64 y.2.2.2) ∧ u'.cell? ⟨w0.heap.size, 0, none⟩ = some (.string sn) ∧ u'.cell? ⟨w0.heap.size, 1, none⟩ = some (.int .i64 sa) ∧ u'.cell? ⟨w0.heap.size, 2, none⟩ = some (.int .i64 sl) ∧ u'.cell? ⟨wk.heap.size, 0, none⟩ = some (.string on) ∧ u'.cell? ⟨wk.heap.size, 1, none⟩ = some (.int .i64 oa) ∧ u'.cell? ⟨wk.heap.size, 2, none⟩ = some (.int .i64 ol) ∧ Below wq.heap.size wq u')) := Lib.hid (fun u u' h hb => ⟨Rg.keep hb (World.block_lt_of_cell? _ _ h.1) h.1, Rg.keep hb (World.block_lt_of_cell? _ _ h.2.1) h.2.1, Rg.keep hb (World.block_lt_of_cell? _ _ h.2.2.1) h.2.2.1, Rg.keep hb (World.block_lt_of_cell? _ _ h.2.2.2.1) h.2.2.2.1, Rg.keep hb (World.block_lt_of_cell? _ _ h.2.2.2.2.1) h.2.2.2.2.1, Rg.keep hb (World.block_lt_of_cell? _ _ h.2.2.2.2.2.1) h.2.2.2.2.2.1, Rg.keep hb (World.block_lt_of_cell? _ _ h.2.2.2.2.2.2.1) h.2.2.2.2.2.2.1, Rg.keep hb (World.block_lt_of_cell? _ _ h.2.2.2.2.2.2.2.1) h.2.2.2.2.2.2.2.1, Rg.keep hb (World.block_lt_of_cell? _ _ h.2.2.2.2.2.2.2.2.1) h.2.2.2.2.2.2.2.2.1, Rg.keep hb (World.block_lt_of_cell? _ _ h.2.2.2.2.2.2.2.2.2.1) h.2.2.2.2.2.2.2.2.2.1, Rg.keep hb (World.block_lt_of_cell? _ _ h.2.2.2.2.2.2.2.2.2.2.1) h.2.2.2.2.2.2.2.2.2.2.1, Rg.keep hb (World.block_lt_of_cell? _ _ h.2.2.2.2.2.2.2.2.2.2.2.1) h.2.2.2.2.2.2.2.2.2.2.2.1, Rg.keep hb (World.block_lt_of_cell? _ _ h.2.2.2.2.2.2.2.2.2.2.2.2.1) h.2.2.2.2.2.2.2.2.2.2.2.2.1, Rg.keep hb (World.block_lt_of_cell? _ _ h.2.2.2.2.2.2.2.2.2.2.2.2.2.1) h.2.2.2.2.2.2.2.2.2.2.2.2.2.1, h.2.2.2.2.2.2.2.2.2.2.2.2.2.2.trans (hb.mono h.2.2.2.2.2.2.2.2.2.2.2.2.2.2.size)⟩)
      clear qx0 qx1 qx2 qx3 qy0 qy1 qy2 qy3 qs0 qs1 qs2 qo0 qo1 qo2
      obtain ⟨tt, htt⟩ : ∃ tt, ov x y = tt := ⟨_, rfl⟩
      have HTT := Lib.hid htt
      have HCK : Hid (ckp xs ss i k = (tt && (decide (sa < oa + ol) && decide (oa < sa + sl)))) := Lib.hid (by unfold ckp; rw [HX.out, HY.out, HS0.out, HT0.out, HTT.out])
      have HNX : ckp xs ss i k = false → ∀ k', k' < k + 1 → ckp xs ss i k' = false := fun h k' h' => by
        rcases Nat.lt_or_eq_of_le (Nat.le_of_lt_succ h') with h1 | rfl
        · exact HC.out k' h1
        · exact h
      have HNX := Lib.hid HNX
      have wz1 : IntKind.i64.wrap (oa + ol) = oa + ol := by rw [IntKind.wrap_i64]; omega
      have wz2 : IntKind.i64.wrap (sa + sl) = sa + sl := by rw [IntKind.wrap_i64]; omega
      cases tt
      case false =>
        have HC2 := Lib.hid (HNX.out (by rw [HCK.out]; rfl))
        refine Rk.begin (S := fun wS => wS.cell? ⟨b, o + i * 4, none⟩ = some (.string x.1) ∧ wS.cell? ⟨b, o + i * 4 + 1, none⟩ = some (.int .i64 x.2.1) ∧ wS.cell? ⟨b, o + i * 4 + 2, none⟩ = some (.int .i64 x.2.2.1) ∧ wS.cell? ⟨b, o + i * 4 + 3, none⟩ = some (.int .i64 x.2.2.2) ∧ wS.cell? ⟨b, o + k * 4, none⟩ = some (.string y.1) ∧ wS.cell? ⟨b, o + k * 4 + 1, none⟩ = some (.int .i64 y.2.1) ∧ wS.cell? ⟨b, o + k * 4 + 2, none⟩ = some (.int .i64 y.2.2.1) ∧ wS.cell? ⟨b, o + k * 4 + 3, none⟩ = some (.int .i64 y.2.2.2) ∧ wS.cell? ⟨w0.heap.size, 0, none⟩ = some (.string sn) ∧ wS.cell? ⟨w0.heap.size, 1, none⟩ = some (.int .i64 sa) ∧ wS.cell? ⟨w0.heap.size, 2, none⟩ = some (.int .i64 sl) ∧ wS.cell? ⟨wk.heap.size, 0, none⟩ = some (.string on) ∧ wS.cell? ⟨wk.heap.size, 1, none⟩ = some (.int .i64 oa) ∧ wS.cell? ⟨wk.heap.size, 2, none⟩ = some (.int .i64 ol) ∧ Below wq.heap.size wq wS) 28 (by kernel_rfl) hz16 (fun hHeld => ?_)
        refine Rk.takeP (i := 0) (v := ?_) rfl (by kernel_rfl) (by kernel_rfl) (by kernel_rfl) (by kernel_rfl) (fun _ _ _ h => h) (Or.inl ⟨by kernel_rfl, ?_⟩) (by assumption) ?_
        rotate_left
        · ((intro w hSw; go_simp) <;> with_reducible rfl)
        try simp only [wz1, wz2, Act.put, List.setIfInBounds_toArray, List.set_cons_zero, List.set_cons_succ]
        refine Rk.takeP (i := 1) (v := ?_) rfl (by kernel_rfl) (by kernel_rfl) (by kernel_rfl) (by kernel_rfl) (fun _ _ _ h => h) (Or.inl ⟨by kernel_rfl, ?_⟩) (by assumption) ?_
        rotate_left
        · ((intro w hSw; go_simp) <;> with_reducible rfl)
        try simp only [wz1, wz2, Act.put, List.setIfInBounds_toArray, List.set_cons_zero, List.set_cons_succ]
        refine Rk.takeP (i := 2) (v := ?_) rfl (by kernel_rfl) (by kernel_rfl) (by kernel_rfl) (by kernel_rfl) (fun _ _ _ h => h) (Or.inl ⟨by kernel_rfl, ?_⟩) (by assumption) ?_
        rotate_left
        · ((intro w hSw; go_simp) <;> with_reducible rfl)
        try simp only [wz1, wz2, Act.put, List.setIfInBounds_toArray, List.set_cons_zero, List.set_cons_succ]
        refine Rk.take [8, 9, 19, 28] (i := 3) (v := ?_) rfl (by kernel_rfl) (by kernel_rfl) (by kernel_rfl) (by kernel_rfl) (by kernel_rfl) (fun _ _ _ h => h) (Or.inl ⟨by kernel_rfl, ?_⟩) (by assumption) ?_
        rotate_left
        · ((intro w hSw; (try dsimp only at hSw); go_simp) <;> with_reducible rfl)
        try simp only [wz1, wz2, Act.put, List.setIfInBounds_toArray, List.set_cons_zero, List.set_cons_succ]
        refine Rk.takeP (i := 4) (v := ?_) rfl (by kernel_rfl) (by kernel_rfl) (by kernel_rfl) (by kernel_rfl) (fun _ _ _ h => h) (Or.inl ⟨by kernel_rfl, ?_⟩) (by assumption) ?_
        rotate_left
        · ((intro w hSw; go_simp) <;> with_reducible rfl)
        try simp only [wz1, wz2, Act.put, List.setIfInBounds_toArray, List.set_cons_zero, List.set_cons_succ]
        refine Rk.takeP (i := 5) (v := ?_) rfl (by kernel_rfl) (by kernel_rfl) (by kernel_rfl) (by kernel_rfl) (fun _ _ _ h => h) (Or.inl ⟨by kernel_rfl, ?_⟩) (by assumption) ?_
        rotate_left
        · ((intro w hSw; go_simp) <;> with_reducible rfl)
        try simp only [wz1, wz2, Act.put, List.setIfInBounds_toArray, List.set_cons_zero, List.set_cons_succ]
        refine Rk.takeP (i := 6) (v := ?_) rfl (by kernel_rfl) (by kernel_rfl) (by kernel_rfl) (by kernel_rfl) (fun _ _ _ h => h) (Or.inl ⟨by kernel_rfl, ?_⟩) (by assumption) ?_
        rotate_left
        · ((intro w hSw; go_simp) <;> with_reducible rfl)
        try simp only [wz1, wz2, Act.put, List.setIfInBounds_toArray, List.set_cons_zero, List.set_cons_succ]
        refine Rk.take [8, 9, 19, 28] (i := 7) (v := ?_) rfl (by kernel_rfl) (by kernel_rfl) (by kernel_rfl) (by kernel_rfl) (by kernel_rfl) (fun _ _ _ h => h) (Or.inl ⟨by kernel_rfl, ?_⟩) (by assumption) ?_
        rotate_left
        · ((intro w hSw; (try dsimp only at hSw); go_simp) <;> with_reducible rfl)
        try simp only [wz1, wz2, Act.put, List.setIfInBounds_toArray, List.set_cons_zero, List.set_cons_succ]
        refine Rk.one (i := 8) (by kernel_rfl) rfl (fun KK hK => ?_)
        rw [if_pos (by kernel_rfl)]
        go_simp
        ((with_reducible refine (OV.out x y _).mono ?_); rintro e u ⟨rfl, hb⟩)
        rw [htt]
        first | (refine hK.out _ _ (fun _ => HS.out _ _ hHeld hb) (fun hHeld => ?_)) | (refine hK.out _ _ (HS.out _ _ hHeld hb) (fun hHeld => ?_)) | (go_wp2_with fail; refine hK.out _ _ (HS.out _ _ hHeld hb) (fun hHeld => ?_))
        clear hK KK
        refine Rk.takeP (i := 9) (v := ?_) rfl (by kernel_rfl) (by kernel_rfl) (by kernel_rfl) (by kernel_rfl) (fun _ _ _ h => h) (Or.inl ⟨by kernel_rfl, ?_⟩) (by assumption) ?_
        rotate_left
        · ((intro w hSw; go_simp) <;> with_reducible rfl)
        try simp only [wz1, wz2, Act.put, List.setIfInBounds_toArray, List.set_cons_zero, List.set_cons_succ]
        refine Rk.takeP (i := 10) (v := undef) rfl (by kernel_rfl) (by kernel_rfl) (by kernel_rfl) (by kernel_rfl) (fun _ _ _ h => h) (Or.inr ⟨by kernel_rfl, rfl⟩) (by assumption) ?_
        try simp only [wz1, wz2, Act.put, List.setIfInBounds_toArray, List.set_cons_zero, List.set_cons_succ]
        refine Rk.takeP (i := 11) (v := undef) rfl (by kernel_rfl) (by kernel_rfl) (by kernel_rfl) (by kernel_rfl) (fun _ _ _ h => h) (Or.inr ⟨by kernel_rfl, rfl⟩) (by assumption) ?_
        try simp only [wz1, wz2, Act.put, List.setIfInBounds_toArray, List.set_cons_zero, List.set_cons_succ]
        refine Rk.takeP (i := 12) (v := undef) rfl (by kernel_rfl) (by kernel_rfl) (by kernel_rfl) (by kernel_rfl) (fun _ _ _ h => h) (Or.inr ⟨by kernel_rfl, rfl⟩) (by assumption) ?_
        try simp only [wz1, wz2, Act.put, List.setIfInBounds_toArray, List.set_cons_zero, List.set_cons_succ]
        refine Rk.takeP (i := 13) (v := undef) rfl (by kernel_rfl) (by kernel_rfl) (by kernel_rfl) (by kernel_rfl) (fun _ _ _ h => h) (Or.inr ⟨by kernel_rfl, rfl⟩) (by assumption) ?_
        try simp only [wz1, wz2, Act.put, List.setIfInBounds_toArray, List.set_cons_zero, List.set_cons_succ]
        refine Rk.takeP (i := 14) (v := undef) rfl (by kernel_rfl) (by kernel_rfl) (by kernel_rfl) (by kernel_rfl) (fun _ _ _ h => h) (Or.inr ⟨by kernel_rfl, rfl⟩) (by assumption) ?_
        try simp only [wz1, wz2, Act.put, List.setIfInBounds_toArray, List.set_cons_zero, List.set_cons_succ]
        refine Rk.takeP (i := 15) (v := undef) rfl (by kernel_rfl) (by kernel_rfl) (by kernel_rfl) (by kernel_rfl) (fun _ _ _ h => h) (Or.inr ⟨by kernel_rfl, rfl⟩) (by assumption) ?_
        try simp only [wz1, wz2, Act.put, List.setIfInBounds_toArray, List.set_cons_zero, List.set_cons_succ]
        refine Rk.takeP (i := 16) (v := undef) rfl (by kernel_rfl) (by kernel_rfl) (by kernel_rfl) (by kernel_rfl) (fun _ _ _ h => h) (Or.inr ⟨by kernel_rfl, rfl⟩) (by assumption) ?_
        try simp only [wz1, wz2, Act.put, List.setIfInBounds_toArray, List.set_cons_zero, List.set_cons_succ]
        refine Rk.takeP (i := 17) (v := undef) rfl (by kernel_rfl) (by kernel_rfl) (by kernel_rfl) (by kernel_rfl) (fun _ _ _ h => h) (Or.inr ⟨by kernel_rfl, rfl⟩) (by assumption) ?_
        try simp only [wz1, wz2, Act.put, List.setIfInBounds_toArray, List.set_cons_zero, List.set_cons_succ]
        refine Rk.takeP (i := 18) (v := ?_) rfl (by kernel_rfl) (by kernel_rfl) (by kernel_rfl) (by kernel_rfl) (fun _ _ _ h => h) (Or.inl ⟨by kernel_rfl, ?_⟩) (by assumption) ?_
        rotate_left
        · ((intro w hSw; go_simp) <;> with_reducible rfl)
        try simp only [wz1, wz2, Act.put, List.setIfInBounds_toArray, List.set_cons_zero, List.set_cons_succ]
        refine Rk.takeP (i := 19) (v := ?_) rfl (by kernel_rfl) (by kernel_rfl) (by kernel_rfl) (by kernel_rfl) (fun _ _ _ h => h) (Or.inl ⟨by kernel_rfl, ?_⟩) (by assumption) ?_
        rotate_left
        · ((intro w hSw; go_simp) <;> with_reducible rfl)
        try simp only [wz1, wz2, Act.put, List.setIfInBounds_toArray, List.set_cons_zero, List.set_cons_succ]
        refine Rk.takeP (i := 20) (v := undef) rfl (by kernel_rfl) (by kernel_rfl) (by kernel_rfl) (by kernel_rfl) (fun _ _ _ h => h) (Or.inr ⟨by kernel_rfl, rfl⟩) (by assumption) ?_
        try simp only [wz1, wz2, Act.put, List.setIfInBounds_toArray, List.set_cons_zero, List.set_cons_succ]
        refine Rk.takeP (i := 21) (v := undef) rfl (by kernel_rfl) (by kernel_rfl) (by kernel_rfl) (by kernel_rfl) (fun _ _ _ h => h) (Or.inr ⟨by kernel_rfl, rfl⟩) (by assumption) ?_
        try simp only [wz1, wz2, Act.put, List.setIfInBounds_toArray, List.set_cons_zero, List.set_cons_succ]
        refine Rk.takeP (i := 22) (v := undef) rfl (by kernel_rfl) (by kernel_rfl) (by kernel_rfl) (by kernel_rfl) (fun _ _ _ h => h) (Or.inr ⟨by kernel_rfl, rfl⟩) (by assumption) ?_
        try simp only [wz1, wz2, Act.put, List.setIfInBounds_toArray, List.set_cons_zero, List.set_cons_succ]
        refine Rk.takeP (i := 23) (v := undef) rfl (by kernel_rfl) (by kernel_rfl) (by kernel_rfl) (by kernel_rfl) (fun _ _ _ h => h) (Or.inr ⟨by kernel_rfl, rfl⟩) (by assumption) ?_
        try simp only [wz1, wz2, Act.put, List.setIfInBounds_toArray, List.set_cons_zero, List.set_cons_succ]
        refine Rk.takeP (i := 24) (v := undef) rfl (by kernel_rfl) (by kernel_rfl) (by kernel_rfl) (by kernel_rfl) (fun _ _ _ h => h) (Or.inr ⟨by kernel_rfl, rfl⟩) (by assumption) ?_
        try simp only [wz1, wz2, Act.put, List.setIfInBounds_toArray, List.set_cons_zero, List.set_cons_succ]
        refine Rk.takeP (i := 25) (v := undef) rfl (by kernel_rfl) (by kernel_rfl) (by kernel_rfl) (by kernel_rfl) (fun _ _ _ h => h) (Or.inr ⟨by kernel_rfl, rfl⟩) (by assumption) ?_
        try simp only [wz1, wz2, Act.put, List.setIfInBounds_toArray, List.set_cons_zero, List.set_cons_succ]
        refine Rk.takeP (i := 26) (v := undef) rfl (by kernel_rfl) (by kernel_rfl) (by kernel_rfl) (by kernel_rfl) (fun _ _ _ h => h) (Or.inr ⟨by kernel_rfl, rfl⟩) (by assumption) ?_
        try simp only [wz1, wz2, Act.put, List.setIfInBounds_toArray, List.set_cons_zero, List.set_cons_succ]
        refine Rk.takeP (i := 27) (v := undef) rfl (by kernel_rfl) (by kernel_rfl) (by kernel_rfl) (by kernel_rfl) (fun _ _ _ h => h) (Or.inr ⟨by kernel_rfl, rfl⟩) (by assumption) ?_
        try simp only [wz1, wz2, Act.put, List.setIfInBounds_toArray, List.set_cons_zero, List.set_cons_succ]
        refine Rk.tail [28] [_] (by kernel_rfl) (by kernel_rfl) rfl (by decide) ?_
        have KBu := hHeld.2.2.2.2.2.2.2.2.2.2.2.2.2.2
        have BU := Lib.hid (BO.out.trans (KBu.mono (by have := BO.out.size; omega)))
        clear hHeld HS hz16 KBu htt wz1 wz2
        go_wp2_with fail
        go_roundw
        case rel => exact ⟨k + 1, by go_num, by omega, HC2, BU⟩
        case measure => simp [intOf]; omega

      by_cases l1 : sa < oa + ol
      case neg =>
        have d1 : decide (sa < oa + ol) = false := decide_eq_false l1
        have HC2 := Lib.hid (HNX.out (by rw [HCK.out, d1]; rfl))
        clear l1
        refine Rk.begin (S := fun wS => wS.cell? ⟨b, o + i * 4, none⟩ = some (.string x.1) ∧ wS.cell? ⟨b, o + i * 4 + 1, none⟩ = some (.int .i64 x.2.1) ∧ wS.cell? ⟨b, o + i * 4 + 2, none⟩ = some (.int .i64 x.2.2.1) ∧ wS.cell? ⟨b, o + i * 4 + 3, none⟩ = some (.int .i64 x.2.2.2) ∧ wS.cell? ⟨b, o + k * 4, none⟩ = some (.string y.1) ∧ wS.cell? ⟨b, o + k * 4 + 1, none⟩ = some (.int .i64 y.2.1) ∧ wS.cell? ⟨b, o + k * 4 + 2, none⟩ = some (.int .i64 y.2.2.1) ∧ wS.cell? ⟨b, o + k * 4 + 3, none⟩ = some (.int .i64 y.2.2.2) ∧ wS.cell? ⟨w0.heap.size, 0, none⟩ = some (.string sn) ∧ wS.cell? ⟨w0.heap.size, 1, none⟩ = some (.int .i64 sa) ∧ wS.cell? ⟨w0.heap.size, 2, none⟩ = some (.int .i64 sl) ∧ wS.cell? ⟨wk.heap.size, 0, none⟩ = some (.string on) ∧ wS.cell? ⟨wk.heap.size, 1, none⟩ = some (.int .i64 oa) ∧ wS.cell? ⟨wk.heap.size, 2, none⟩ = some (.int .i64 ol) ∧ Below wq.heap.size wq wS) 28 (by kernel_rfl) hz16 (fun hHeld => ?_)
        refine Rk.takeP (i := 0) (v := ?_) rfl (by kernel_rfl) (by kernel_rfl) (by kernel_rfl) (by kernel_rfl) (fun _ _ _ h => h) (Or.inl ⟨by kernel_rfl, ?_⟩) (by assumption) ?_
        rotate_left
        · ((intro w hSw; go_simp) <;> with_reducible rfl)
        try simp only [wz1, wz2, Act.put, List.setIfInBounds_toArray, List.set_cons_zero, List.set_cons_succ]
        refine Rk.takeP (i := 1) (v := ?_) rfl (by kernel_rfl) (by kernel_rfl) (by kernel_rfl) (by kernel_rfl) (fun _ _ _ h => h) (Or.inl ⟨by kernel_rfl, ?_⟩) (by assumption) ?_
        rotate_left
        · ((intro w hSw; go_simp) <;> with_reducible rfl)
        try simp only [wz1, wz2, Act.put, List.setIfInBounds_toArray, List.set_cons_zero, List.set_cons_succ]
        refine Rk.takeP (i := 2) (v := ?_) rfl (by kernel_rfl) (by kernel_rfl) (by kernel_rfl) (by kernel_rfl) (fun _ _ _ h => h) (Or.inl ⟨by kernel_rfl, ?_⟩) (by assumption) ?_
        rotate_left
        · ((intro w hSw; go_simp) <;> with_reducible rfl)
        try simp only [wz1, wz2, Act.put, List.setIfInBounds_toArray, List.set_cons_zero, List.set_cons_succ]
        refine Rk.take [8, 9, 19, 28] (i := 3) (v := ?_) rfl (by kernel_rfl) (by kernel_rfl) (by kernel_rfl) (by kernel_rfl) (by kernel_rfl) (fun _ _ _ h => h) (Or.inl ⟨by kernel_rfl, ?_⟩) (by assumption) ?_
        rotate_left
        · ((intro w hSw; (try dsimp only at hSw); go_simp) <;> with_reducible rfl)
        try simp only [wz1, wz2, Act.put, List.setIfInBounds_toArray, List.set_cons_zero, List.set_cons_succ]
        refine Rk.takeP (i := 4) (v := ?_) rfl (by kernel_rfl) (by kernel_rfl) (by kernel_rfl) (by kernel_rfl) (fun _ _ _ h => h) (Or.inl ⟨by kernel_rfl, ?_⟩) (by assumption) ?_
        rotate_left
        · ((intro w hSw; go_simp) <;> with_reducible rfl)
        try simp only [wz1, wz2, Act.put, List.setIfInBounds_toArray, List.set_cons_zero, List.set_cons_succ]
        refine Rk.takeP (i := 5) (v := ?_) rfl (by kernel_rfl) (by kernel_rfl) (by kernel_rfl) (by kernel_rfl) (fun _ _ _ h => h) (Or.inl ⟨by kernel_rfl, ?_⟩) (by assumption) ?_
        rotate_left
        · ((intro w hSw; go_simp) <;> with_reducible rfl)
        try simp only [wz1, wz2, Act.put, List.setIfInBounds_toArray, List.set_cons_zero, List.set_cons_succ]
        refine Rk.takeP (i := 6) (v := ?_) rfl (by kernel_rfl) (by kernel_rfl) (by kernel_rfl) (by kernel_rfl) (fun _ _ _ h => h) (Or.inl ⟨by kernel_rfl, ?_⟩) (by assumption) ?_
        rotate_left
        · ((intro w hSw; go_simp) <;> with_reducible rfl)
        try simp only [wz1, wz2, Act.put, List.setIfInBounds_toArray, List.set_cons_zero, List.set_cons_succ]
        refine Rk.take [8, 9, 19, 28] (i := 7) (v := ?_) rfl (by kernel_rfl) (by kernel_rfl) (by kernel_rfl) (by kernel_rfl) (by kernel_rfl) (fun _ _ _ h => h) (Or.inl ⟨by kernel_rfl, ?_⟩) (by assumption) ?_
        rotate_left
        · ((intro w hSw; (try dsimp only at hSw); go_simp) <;> with_reducible rfl)
        try simp only [wz1, wz2, Act.put, List.setIfInBounds_toArray, List.set_cons_zero, List.set_cons_succ]
        refine Rk.one (i := 8) (by kernel_rfl) rfl (fun KK hK => ?_)
        rw [if_pos (by kernel_rfl)]
        go_simp
        ((with_reducible refine (OV.out x y _).mono ?_); rintro e u ⟨rfl, hb⟩)
        rw [htt]
        first | (refine hK.out _ _ (fun _ => HS.out _ _ hHeld hb) (fun hHeld => ?_)) | (refine hK.out _ _ (HS.out _ _ hHeld hb) (fun hHeld => ?_)) | (go_wp2_with fail; refine hK.out _ _ (HS.out _ _ hHeld hb) (fun hHeld => ?_))
        clear hK KK
        refine Rk.takeP (i := 9) (v := ?_) rfl (by kernel_rfl) (by kernel_rfl) (by kernel_rfl) (by kernel_rfl) (fun _ _ _ h => h) (Or.inl ⟨by kernel_rfl, ?_⟩) (by assumption) ?_
        rotate_left
        · ((intro w hSw; go_simp) <;> with_reducible rfl)
        try simp only [wz1, wz2, Act.put, List.setIfInBounds_toArray, List.set_cons_zero, List.set_cons_succ]
        refine Rk.takeP (i := 10) (v := ?_) rfl (by kernel_rfl) (by kernel_rfl) (by kernel_rfl) (by kernel_rfl) (fun _ _ _ h => h) (Or.inl ⟨by kernel_rfl, ?_⟩) (by assumption) ?_
        rotate_left
        · ((intro w hSw; go_simp) <;> with_reducible rfl)
        try simp only [wz1, wz2, Act.put, List.setIfInBounds_toArray, List.set_cons_zero, List.set_cons_succ]
        refine Rk.take [17, 18, 19, 28] (i := 11) (v := ?_) rfl (by kernel_rfl) (by kernel_rfl) (by kernel_rfl) (by kernel_rfl) (by kernel_rfl) (fun _ _ _ h => h) (Or.inl ⟨by kernel_rfl, ?_⟩) (by assumption) ?_
        rotate_left
        · ((intro w hSw; (try dsimp only at hSw); go_simp) <;> with_reducible rfl)
        try simp only [wz1, wz2, Act.put, List.setIfInBounds_toArray, List.set_cons_zero, List.set_cons_succ]
        refine Rk.takeP (i := 12) (v := ?_) rfl (by kernel_rfl) (by kernel_rfl) (by kernel_rfl) (by kernel_rfl) (fun _ _ _ h => h) (Or.inl ⟨by kernel_rfl, ?_⟩) (by assumption) ?_
        rotate_left
        · ((intro w hSw; go_simp) <;> with_reducible rfl)
        try simp only [wz1, wz2, Act.put, List.setIfInBounds_toArray, List.set_cons_zero, List.set_cons_succ]
        refine Rk.take [16, 17, 18, 19, 28] (i := 13) (v := ?_) rfl (by kernel_rfl) (by kernel_rfl) (by kernel_rfl) (by kernel_rfl) (by kernel_rfl) (fun _ _ _ h => h) (Or.inl ⟨by kernel_rfl, ?_⟩) (by assumption) ?_
        rotate_left
        · ((intro w hSw; (try dsimp only at hSw); go_simp) <;> with_reducible rfl)
        try simp only [wz1, wz2, Act.put, List.setIfInBounds_toArray, List.set_cons_zero, List.set_cons_succ]
        refine Rk.takeP (i := 14) (v := ?_) rfl (by kernel_rfl) (by kernel_rfl) (by kernel_rfl) (by kernel_rfl) (fun _ _ _ h => h) (Or.inl ⟨by kernel_rfl, ?_⟩) (by assumption) ?_
        rotate_left
        · ((intro w hSw; go_simp) <;> with_reducible rfl)
        try simp only [wz1, wz2, Act.put, List.setIfInBounds_toArray, List.set_cons_zero, List.set_cons_succ]
        refine Rk.take [16, 17, 18, 19, 28] (i := 15) (v := ?_) rfl (by kernel_rfl) (by kernel_rfl) (by kernel_rfl) (by kernel_rfl) (by kernel_rfl) (fun _ _ _ h => h) (Or.inl ⟨by kernel_rfl, ?_⟩) (by assumption) ?_
        rotate_left
        · ((intro w hSw; (try dsimp only at hSw); go_simp) <;> with_reducible rfl)
        try simp only [wz1, wz2, Act.put, List.setIfInBounds_toArray, List.set_cons_zero, List.set_cons_succ]
        refine Rk.takeP (i := 16) (v := ?_) rfl (by kernel_rfl) (by kernel_rfl) (by kernel_rfl) (by kernel_rfl) (fun _ _ _ h => h) (Or.inl ⟨by kernel_rfl, ?_⟩) (by assumption) ?_
        rotate_left
        · ((intro w hSw; go_simp) <;> with_reducible rfl)
        try simp only [wz1, wz2, Act.put, List.setIfInBounds_toArray, List.set_cons_zero, List.set_cons_succ]
        refine Rk.takeP (i := 17) (v := ?_) rfl (by kernel_rfl) (by kernel_rfl) (by kernel_rfl) (by kernel_rfl) (fun _ _ _ h => h) (Or.inl ⟨by kernel_rfl, ?_⟩) (by assumption) ?_
        rotate_left
        · ((intro w hSw; go_simp) <;> with_reducible rfl)
        try simp only [wz1, wz2, Act.put, List.setIfInBounds_toArray, List.set_cons_zero, List.set_cons_succ]
        refine Rk.takeP (i := 18) (v := ?_) rfl (by kernel_rfl) (by kernel_rfl) (by kernel_rfl) (by kernel_rfl) (fun _ _ _ h => h) (Or.inl ⟨by kernel_rfl, ?_⟩) (by assumption) ?_
        rotate_left
        · ((intro w hSw; go_simp) <;> with_reducible rfl)
        try simp only [wz1, wz2, Act.put, List.setIfInBounds_toArray, List.set_cons_zero, List.set_cons_succ]
        refine Rk.takeP (i := 19) (v := ?_) rfl (by kernel_rfl) (by kernel_rfl) (by kernel_rfl) (by kernel_rfl) (fun _ _ _ h => h) (Or.inl ⟨by kernel_rfl, ?_⟩) (by assumption) ?_
        rotate_left
        · ((intro w hSw; go_simp) <;> with_reducible rfl)
        try simp only [wz1, wz2, Act.put, List.setIfInBounds_toArray, List.set_cons_zero, List.set_cons_succ]
        refine Rk.takeP (i := 20) (v := undef) rfl (by kernel_rfl) (by kernel_rfl) (by kernel_rfl) (by kernel_rfl) (fun _ _ _ h => h) (Or.inr ⟨by kernel_rfl, rfl⟩) (by assumption) ?_
        try simp only [wz1, wz2, Act.put, List.setIfInBounds_toArray, List.set_cons_zero, List.set_cons_succ]
        refine Rk.takeP (i := 21) (v := undef) rfl (by kernel_rfl) (by kernel_rfl) (by kernel_rfl) (by kernel_rfl) (fun _ _ _ h => h) (Or.inr ⟨by kernel_rfl, rfl⟩) (by assumption) ?_
        try simp only [wz1, wz2, Act.put, List.setIfInBounds_toArray, List.set_cons_zero, List.set_cons_succ]
        refine Rk.takeP (i := 22) (v := undef) rfl (by kernel_rfl) (by kernel_rfl) (by kernel_rfl) (by kernel_rfl) (fun _ _ _ h => h) (Or.inr ⟨by kernel_rfl, rfl⟩) (by assumption) ?_
        try simp only [wz1, wz2, Act.put, List.setIfInBounds_toArray, List.set_cons_zero, List.set_cons_succ]
        refine Rk.takeP (i := 23) (v := undef) rfl (by kernel_rfl) (by kernel_rfl) (by kernel_rfl) (by kernel_rfl) (fun _ _ _ h => h) (Or.inr ⟨by kernel_rfl, rfl⟩) (by assumption) ?_
        try simp only [wz1, wz2, Act.put, List.setIfInBounds_toArray, List.set_cons_zero, List.set_cons_succ]
        refine Rk.takeP (i := 24) (v := undef) rfl (by kernel_rfl) (by kernel_rfl) (by kernel_rfl) (by kernel_rfl) (fun _ _ _ h => h) (Or.inr ⟨by kernel_rfl, rfl⟩) (by assumption) ?_
        try simp only [wz1, wz2, Act.put, List.setIfInBounds_toArray, List.set_cons_zero, List.set_cons_succ]
        refine Rk.takeP (i := 25) (v := undef) rfl (by kernel_rfl) (by kernel_rfl) (by kernel_rfl) (by kernel_rfl) (fun _ _ _ h => h) (Or.inr ⟨by kernel_rfl, rfl⟩) (by assumption) ?_
        try simp only [wz1, wz2, Act.put, List.setIfInBounds_toArray, List.set_cons_zero, List.set_cons_succ]
        refine Rk.takeP (i := 26) (v := undef) rfl (by kernel_rfl) (by kernel_rfl) (by kernel_rfl) (by kernel_rfl) (fun _ _ _ h => h) (Or.inr ⟨by kernel_rfl, rfl⟩) (by assumption) ?_
        try simp only [wz1, wz2, Act.put, List.setIfInBounds_toArray, List.set_cons_zero, List.set_cons_succ]
        refine Rk.takeP (i := 27) (v := undef) rfl (by kernel_rfl) (by kernel_rfl) (by kernel_rfl) (by kernel_rfl) (fun _ _ _ h => h) (Or.inr ⟨by kernel_rfl, rfl⟩) (by assumption) ?_
        try simp only [wz1, wz2, Act.put, List.setIfInBounds_toArray, List.set_cons_zero, List.set_cons_succ]
        refine Rk.tail [28] [_] (by kernel_rfl) (by kernel_rfl) rfl (by decide) ?_
        have KBu := hHeld.2.2.2.2.2.2.2.2.2.2.2.2.2.2
        have BU := Lib.hid (BO.out.trans (KBu.mono (by have := BO.out.size; omega)))
        clear hHeld HS hz16 KBu htt wz1 wz2
        go_wp2_with fail
        go_roundw
        case rel => exact ⟨k + 1, by go_num, by omega, HC2, BU⟩
        case measure => simp [intOf]; omega

      have d1 : decide (sa < oa + ol) = true := decide_eq_true l1
      by_cases l2 : oa < sa + sl
      case neg =>
        have d2 : decide (oa < sa + sl) = false := decide_eq_false l2
        have HC2 := Lib.hid (HNX.out (by rw [HCK.out, d1, d2]; rfl))
        clear l1 l2
        refine Rk.begin (S := fun wS => wS.cell? ⟨b, o + i * 4, none⟩ = some (.string x.1) ∧ wS.cell? ⟨b, o + i * 4 + 1, none⟩ = some (.int .i64 x.2.1) ∧ wS.cell? ⟨b, o + i * 4 + 2, none⟩ = some (.int .i64 x.2.2.1) ∧ wS.cell? ⟨b, o + i * 4 + 3, none⟩ = some (.int .i64 x.2.2.2) ∧ wS.cell? ⟨b, o + k * 4, none⟩ = some (.string y.1) ∧ wS.cell? ⟨b, o + k * 4 + 1, none⟩ = some (.int .i64 y.2.1) ∧ wS.cell? ⟨b, o + k * 4 + 2, none⟩ = some (.int .i64 y.2.2.1) ∧ wS.cell? ⟨b, o + k * 4 + 3, none⟩ = some (.int .i64 y.2.2.2) ∧ wS.cell? ⟨w0.heap.size, 0, none⟩ = some (.string sn) ∧ wS.cell? ⟨w0.heap.size, 1, none⟩ = some (.int .i64 sa) ∧ wS.cell? ⟨w0.heap.size, 2, none⟩ = some (.int .i64 sl) ∧ wS.cell? ⟨wk.heap.size, 0, none⟩ = some (.string on) ∧ wS.cell? ⟨wk.heap.size, 1, none⟩ = some (.int .i64 oa) ∧ wS.cell? ⟨wk.heap.size, 2, none⟩ = some (.int .i64 ol) ∧ Below wq.heap.size wq wS) 28 (by kernel_rfl) hz16 (fun hHeld => ?_)
        refine Rk.takeP (i := 0) (v := ?_) rfl (by kernel_rfl) (by kernel_rfl) (by kernel_rfl) (by kernel_rfl) (fun _ _ _ h => h) (Or.inl ⟨by kernel_rfl, ?_⟩) (by assumption) ?_
        rotate_left
        · ((intro w hSw; go_simp) <;> with_reducible rfl)
        try simp only [wz1, wz2, Act.put, List.setIfInBounds_toArray, List.set_cons_zero, List.set_cons_succ]
        refine Rk.takeP (i := 1) (v := ?_) rfl (by kernel_rfl) (by kernel_rfl) (by kernel_rfl) (by kernel_rfl) (fun _ _ _ h => h) (Or.inl ⟨by kernel_rfl, ?_⟩) (by assumption) ?_
        rotate_left
        · ((intro w hSw; go_simp) <;> with_reducible rfl)
        try simp only [wz1, wz2, Act.put, List.setIfInBounds_toArray, List.set_cons_zero, List.set_cons_succ]
        refine Rk.takeP (i := 2) (v := ?_) rfl (by kernel_rfl) (by kernel_rfl) (by kernel_rfl) (by kernel_rfl) (fun _ _ _ h => h) (Or.inl ⟨by kernel_rfl, ?_⟩) (by assumption) ?_
        rotate_left
        · ((intro w hSw; go_simp) <;> with_reducible rfl)
        try simp only [wz1, wz2, Act.put, List.setIfInBounds_toArray, List.set_cons_zero, List.set_cons_succ]
        refine Rk.take [8, 9, 19, 28] (i := 3) (v := ?_) rfl (by kernel_rfl) (by kernel_rfl) (by kernel_rfl) (by kernel_rfl) (by kernel_rfl) (fun _ _ _ h => h) (Or.inl ⟨by kernel_rfl, ?_⟩) (by assumption) ?_
        rotate_left
        · ((intro w hSw; (try dsimp only at hSw); go_simp) <;> with_reducible rfl)
        try simp only [wz1, wz2, Act.put, List.setIfInBounds_toArray, List.set_cons_zero, List.set_cons_succ]
        refine Rk.takeP (i := 4) (v := ?_) rfl (by kernel_rfl) (by kernel_rfl) (by kernel_rfl) (by kernel_rfl) (fun _ _ _ h => h) (Or.inl ⟨by kernel_rfl, ?_⟩) (by assumption) ?_
        rotate_left
        · ((intro w hSw; go_simp) <;> with_reducible rfl)
        try simp only [wz1, wz2, Act.put, List.setIfInBounds_toArray, List.set_cons_zero, List.set_cons_succ]
        refine Rk.takeP (i := 5) (v := ?_) rfl (by kernel_rfl) (by kernel_rfl) (by kernel_rfl) (by kernel_rfl) (fun _ _ _ h => h) (Or.inl ⟨by kernel_rfl, ?_⟩) (by assumption) ?_
        rotate_left
        · ((intro w hSw; go_simp) <;> with_reducible rfl)
        try simp only [wz1, wz2, Act.put, List.setIfInBounds_toArray, List.set_cons_zero, List.set_cons_succ]
        refine Rk.takeP (i := 6) (v := ?_) rfl (by kernel_rfl) (by kernel_rfl) (by kernel_rfl) (by kernel_rfl) (fun _ _ _ h => h) (Or.inl ⟨by kernel_rfl, ?_⟩) (by assumption) ?_
        rotate_left
        · ((intro w hSw; go_simp) <;> with_reducible rfl)
        try simp only [wz1, wz2, Act.put, List.setIfInBounds_toArray, List.set_cons_zero, List.set_cons_succ]
        refine Rk.take [8, 9, 19, 28] (i := 7) (v := ?_) rfl (by kernel_rfl) (by kernel_rfl) (by kernel_rfl) (by kernel_rfl) (by kernel_rfl) (fun _ _ _ h => h) (Or.inl ⟨by kernel_rfl, ?_⟩) (by assumption) ?_
        rotate_left
        · ((intro w hSw; (try dsimp only at hSw); go_simp) <;> with_reducible rfl)
        try simp only [wz1, wz2, Act.put, List.setIfInBounds_toArray, List.set_cons_zero, List.set_cons_succ]
        refine Rk.one (i := 8) (by kernel_rfl) rfl (fun KK hK => ?_)
        rw [if_pos (by kernel_rfl)]
        go_simp
        ((with_reducible refine (OV.out x y _).mono ?_); rintro e u ⟨rfl, hb⟩)
        rw [htt]
        first | (refine hK.out _ _ (fun _ => HS.out _ _ hHeld hb) (fun hHeld => ?_)) | (refine hK.out _ _ (HS.out _ _ hHeld hb) (fun hHeld => ?_)) | (go_wp2_with fail; refine hK.out _ _ (HS.out _ _ hHeld hb) (fun hHeld => ?_))
        clear hK KK
        refine Rk.takeP (i := 9) (v := ?_) rfl (by kernel_rfl) (by kernel_rfl) (by kernel_rfl) (by kernel_rfl) (fun _ _ _ h => h) (Or.inl ⟨by kernel_rfl, ?_⟩) (by assumption) ?_
        rotate_left
        · ((intro w hSw; go_simp) <;> with_reducible rfl)
        try simp only [wz1, wz2, Act.put, List.setIfInBounds_toArray, List.set_cons_zero, List.set_cons_succ]
        refine Rk.takeP (i := 10) (v := ?_) rfl (by kernel_rfl) (by kernel_rfl) (by kernel_rfl) (by kernel_rfl) (fun _ _ _ h => h) (Or.inl ⟨by kernel_rfl, ?_⟩) (by assumption) ?_
        rotate_left
        · ((intro w hSw; go_simp) <;> with_reducible rfl)
        try simp only [wz1, wz2, Act.put, List.setIfInBounds_toArray, List.set_cons_zero, List.set_cons_succ]
        refine Rk.take [17, 18, 19, 28] (i := 11) (v := ?_) rfl (by kernel_rfl) (by kernel_rfl) (by kernel_rfl) (by kernel_rfl) (by kernel_rfl) (fun _ _ _ h => h) (Or.inl ⟨by kernel_rfl, ?_⟩) (by assumption) ?_
        rotate_left
        · ((intro w hSw; (try dsimp only at hSw); go_simp) <;> with_reducible rfl)
        try simp only [wz1, wz2, Act.put, List.setIfInBounds_toArray, List.set_cons_zero, List.set_cons_succ]
        refine Rk.takeP (i := 12) (v := ?_) rfl (by kernel_rfl) (by kernel_rfl) (by kernel_rfl) (by kernel_rfl) (fun _ _ _ h => h) (Or.inl ⟨by kernel_rfl, ?_⟩) (by assumption) ?_
        rotate_left
        · ((intro w hSw; go_simp) <;> with_reducible rfl)
        try simp only [wz1, wz2, Act.put, List.setIfInBounds_toArray, List.set_cons_zero, List.set_cons_succ]
        refine Rk.take [16, 17, 18, 19, 28] (i := 13) (v := ?_) rfl (by kernel_rfl) (by kernel_rfl) (by kernel_rfl) (by kernel_rfl) (by kernel_rfl) (fun _ _ _ h => h) (Or.inl ⟨by kernel_rfl, ?_⟩) (by assumption) ?_
        rotate_left
        · ((intro w hSw; (try dsimp only at hSw); go_simp) <;> with_reducible rfl)
        try simp only [wz1, wz2, Act.put, List.setIfInBounds_toArray, List.set_cons_zero, List.set_cons_succ]
        refine Rk.takeP (i := 14) (v := ?_) rfl (by kernel_rfl) (by kernel_rfl) (by kernel_rfl) (by kernel_rfl) (fun _ _ _ h => h) (Or.inl ⟨by kernel_rfl, ?_⟩) (by assumption) ?_
        rotate_left
        · ((intro w hSw; go_simp) <;> with_reducible rfl)
        try simp only [wz1, wz2, Act.put, List.setIfInBounds_toArray, List.set_cons_zero, List.set_cons_succ]
        refine Rk.take [16, 17, 18, 19, 28] (i := 15) (v := ?_) rfl (by kernel_rfl) (by kernel_rfl) (by kernel_rfl) (by kernel_rfl) (by kernel_rfl) (fun _ _ _ h => h) (Or.inl ⟨by kernel_rfl, ?_⟩) (by assumption) ?_
        rotate_left
        · ((intro w hSw; (try dsimp only at hSw); go_simp) <;> with_reducible rfl)
        try simp only [wz1, wz2, Act.put, List.setIfInBounds_toArray, List.set_cons_zero, List.set_cons_succ]
        refine Rk.takeP (i := 16) (v := ?_) rfl (by kernel_rfl) (by kernel_rfl) (by kernel_rfl) (by kernel_rfl) (fun _ _ _ h => h) (Or.inl ⟨by kernel_rfl, ?_⟩) (by assumption) ?_
        rotate_left
        · ((intro w hSw; go_simp) <;> with_reducible rfl)
        try simp only [wz1, wz2, Act.put, List.setIfInBounds_toArray, List.set_cons_zero, List.set_cons_succ]
        refine Rk.takeP (i := 17) (v := ?_) rfl (by kernel_rfl) (by kernel_rfl) (by kernel_rfl) (by kernel_rfl) (fun _ _ _ h => h) (Or.inl ⟨by kernel_rfl, ?_⟩) (by assumption) ?_
        rotate_left
        · ((intro w hSw; go_simp) <;> with_reducible rfl)
        try simp only [wz1, wz2, Act.put, List.setIfInBounds_toArray, List.set_cons_zero, List.set_cons_succ]
        refine Rk.takeP (i := 18) (v := ?_) rfl (by kernel_rfl) (by kernel_rfl) (by kernel_rfl) (by kernel_rfl) (fun _ _ _ h => h) (Or.inl ⟨by kernel_rfl, ?_⟩) (by assumption) ?_
        rotate_left
        · ((intro w hSw; go_simp) <;> with_reducible rfl)
        try simp only [wz1, wz2, Act.put, List.setIfInBounds_toArray, List.set_cons_zero, List.set_cons_succ]
        refine Rk.takeP (i := 19) (v := ?_) rfl (by kernel_rfl) (by kernel_rfl) (by kernel_rfl) (by kernel_rfl) (fun _ _ _ h => h) (Or.inl ⟨by kernel_rfl, ?_⟩) (by assumption) ?_
        rotate_left
        · ((intro w hSw; go_simp) <;> with_reducible rfl)
        try simp only [wz1, wz2, Act.put, List.setIfInBounds_toArray, List.set_cons_zero, List.set_cons_succ]
        refine Rk.takeP (i := 20) (v := ?_) rfl (by kernel_rfl) (by kernel_rfl) (by kernel_rfl) (by kernel_rfl) (fun _ _ _ h => h) (Or.inl ⟨by kernel_rfl, ?_⟩) (by assumption) ?_
        rotate_left
        · ((intro w hSw; go_simp) <;> with_reducible rfl)
        try simp only [wz1, wz2, Act.put, List.setIfInBounds_toArray, List.set_cons_zero, List.set_cons_succ]
        refine Rk.take [27, 28] (i := 21) (v := ?_) rfl (by kernel_rfl) (by kernel_rfl) (by kernel_rfl) (by kernel_rfl) (by kernel_rfl) (fun _ _ _ h => h) (Or.inl ⟨by kernel_rfl, ?_⟩) (by assumption) ?_
        rotate_left
        · ((intro w hSw; (try dsimp only at hSw); go_simp) <;> with_reducible rfl)
        try simp only [wz1, wz2, Act.put, List.setIfInBounds_toArray, List.set_cons_zero, List.set_cons_succ]
        refine Rk.takeP (i := 22) (v := ?_) rfl (by kernel_rfl) (by kernel_rfl) (by kernel_rfl) (by kernel_rfl) (fun _ _ _ h => h) (Or.inl ⟨by kernel_rfl, ?_⟩) (by assumption) ?_
        rotate_left
        · ((intro w hSw; go_simp) <;> with_reducible rfl)
        try simp only [wz1, wz2, Act.put, List.setIfInBounds_toArray, List.set_cons_zero, List.set_cons_succ]
        refine Rk.take [26, 27, 28] (i := 23) (v := ?_) rfl (by kernel_rfl) (by kernel_rfl) (by kernel_rfl) (by kernel_rfl) (by kernel_rfl) (fun _ _ _ h => h) (Or.inl ⟨by kernel_rfl, ?_⟩) (by assumption) ?_
        rotate_left
        · ((intro w hSw; (try dsimp only at hSw); go_simp) <;> with_reducible rfl)
        try simp only [wz1, wz2, Act.put, List.setIfInBounds_toArray, List.set_cons_zero, List.set_cons_succ]
        refine Rk.takeP (i := 24) (v := ?_) rfl (by kernel_rfl) (by kernel_rfl) (by kernel_rfl) (by kernel_rfl) (fun _ _ _ h => h) (Or.inl ⟨by kernel_rfl, ?_⟩) (by assumption) ?_
        rotate_left
        · ((intro w hSw; go_simp) <;> with_reducible rfl)
        try simp only [wz1, wz2, Act.put, List.setIfInBounds_toArray, List.set_cons_zero, List.set_cons_succ]
        refine Rk.take [26, 27, 28] (i := 25) (v := ?_) rfl (by kernel_rfl) (by kernel_rfl) (by kernel_rfl) (by kernel_rfl) (by kernel_rfl) (fun _ _ _ h => h) (Or.inl ⟨by kernel_rfl, ?_⟩) (by assumption) ?_
        rotate_left
        · ((intro w hSw; (try dsimp only at hSw); go_simp) <;> with_reducible rfl)
        try simp only [wz1, wz2, Act.put, List.setIfInBounds_toArray, List.set_cons_zero, List.set_cons_succ]
        refine Rk.takeP (i := 26) (v := ?_) rfl (by kernel_rfl) (by kernel_rfl) (by kernel_rfl) (by kernel_rfl) (fun _ _ _ h => h) (Or.inl ⟨by kernel_rfl, ?_⟩) (by assumption) ?_
        rotate_left
        · ((intro w hSw; go_simp) <;> with_reducible rfl)
        try simp only [wz1, wz2, Act.put, List.setIfInBounds_toArray, List.set_cons_zero, List.set_cons_succ]
        refine Rk.takeP (i := 27) (v := ?_) rfl (by kernel_rfl) (by kernel_rfl) (by kernel_rfl) (by kernel_rfl) (fun _ _ _ h => h) (Or.inl ⟨by kernel_rfl, ?_⟩) (by assumption) ?_
        rotate_left
        · ((intro w hSw; go_simp) <;> with_reducible rfl)
        try simp only [wz1, wz2, Act.put, List.setIfInBounds_toArray, List.set_cons_zero, List.set_cons_succ]
        refine Rk.tail [28] [_] (by kernel_rfl) (by kernel_rfl) rfl (by decide) ?_
        have KBu := hHeld.2.2.2.2.2.2.2.2.2.2.2.2.2.2
        have BU := Lib.hid (BO.out.trans (KBu.mono (by have := BO.out.size; omega)))
        clear hHeld HS hz16 KBu htt wz1 wz2
        go_wp2_with fail
        go_roundw
        case rel => exact ⟨k + 1, by go_num, by omega, HC2, BU⟩
        case measure => simp [intOf]; omega

      have d2 : decide (oa < sa + sl) = true := decide_eq_true l2
      have HF := Lib.hid (HQA.out _ (ck1_d HQ1.out HQ2.out HK3.out hlk (by rw [HCK.out, d1, d2]; rfl)) (by decide))
      clear l1 l2
      refine Rk.begin (S := fun wS => wS.cell? ⟨b, o + i * 4, none⟩ = some (.string x.1) ∧ wS.cell? ⟨b, o + i * 4 + 1, none⟩ = some (.int .i64 x.2.1) ∧ wS.cell? ⟨b, o + i * 4 + 2, none⟩ = some (.int .i64 x.2.2.1) ∧ wS.cell? ⟨b, o + i * 4 + 3, none⟩ = some (.int .i64 x.2.2.2) ∧ wS.cell? ⟨b, o + k * 4, none⟩ = some (.string y.1) ∧ wS.cell? ⟨b, o + k * 4 + 1, none⟩ = some (.int .i64 y.2.1) ∧ wS.cell? ⟨b, o + k * 4 + 2, none⟩ = some (.int .i64 y.2.2.1) ∧ wS.cell? ⟨b, o + k * 4 + 3, none⟩ = some (.int .i64 y.2.2.2) ∧ wS.cell? ⟨w0.heap.size, 0, none⟩ = some (.string sn) ∧ wS.cell? ⟨w0.heap.size, 1, none⟩ = some (.int .i64 sa) ∧ wS.cell? ⟨w0.heap.size, 2, none⟩ = some (.int .i64 sl) ∧ wS.cell? ⟨wk.heap.size, 0, none⟩ = some (.string on) ∧ wS.cell? ⟨wk.heap.size, 1, none⟩ = some (.int .i64 oa) ∧ wS.cell? ⟨wk.heap.size, 2, none⟩ = some (.int .i64 ol) ∧ Below wq.heap.size wq wS) 28 (by kernel_rfl) hz16 (fun hHeld => ?_)
      refine Rk.takeP (i := 0) (v := ?_) rfl (by kernel_rfl) (by kernel_rfl) (by kernel_rfl) (by kernel_rfl) (fun _ _ _ h => h) (Or.inl ⟨by kernel_rfl, ?_⟩) (by assumption) ?_
      rotate_left
      · ((intro w hSw; go_simp) <;> with_reducible rfl)
      try simp only [wz1, wz2, Act.put, List.setIfInBounds_toArray, List.set_cons_zero, List.set_cons_succ]
      refine Rk.takeP (i := 1) (v := ?_) rfl (by kernel_rfl) (by kernel_rfl) (by kernel_rfl) (by kernel_rfl) (fun _ _ _ h => h) (Or.inl ⟨by kernel_rfl, ?_⟩) (by assumption) ?_
      rotate_left
      · ((intro w hSw; go_simp) <;> with_reducible rfl)
      try simp only [wz1, wz2, Act.put, List.setIfInBounds_toArray, List.set_cons_zero, List.set_cons_succ]
      refine Rk.takeP (i := 2) (v := ?_) rfl (by kernel_rfl) (by kernel_rfl) (by kernel_rfl) (by kernel_rfl) (fun _ _ _ h => h) (Or.inl ⟨by kernel_rfl, ?_⟩) (by assumption) ?_
      rotate_left
      · ((intro w hSw; go_simp) <;> with_reducible rfl)
      try simp only [wz1, wz2, Act.put, List.setIfInBounds_toArray, List.set_cons_zero, List.set_cons_succ]
      refine Rk.take [8, 9, 19, 28] (i := 3) (v := ?_) rfl (by kernel_rfl) (by kernel_rfl) (by kernel_rfl) (by kernel_rfl) (by kernel_rfl) (fun _ _ _ h => h) (Or.inl ⟨by kernel_rfl, ?_⟩) (by assumption) ?_
      rotate_left
      · ((intro w hSw; (try dsimp only at hSw); go_simp) <;> with_reducible rfl)
      try simp only [wz1, wz2, Act.put, List.setIfInBounds_toArray, List.set_cons_zero, List.set_cons_succ]
      refine Rk.takeP (i := 4) (v := ?_) rfl (by kernel_rfl) (by kernel_rfl) (by kernel_rfl) (by kernel_rfl) (fun _ _ _ h => h) (Or.inl ⟨by kernel_rfl, ?_⟩) (by assumption) ?_
      rotate_left
      · ((intro w hSw; go_simp) <;> with_reducible rfl)
      try simp only [wz1, wz2, Act.put, List.setIfInBounds_toArray, List.set_cons_zero, List.set_cons_succ]
      refine Rk.takeP (i := 5) (v := ?_) rfl (by kernel_rfl) (by kernel_rfl) (by kernel_rfl) (by kernel_rfl) (fun _ _ _ h => h) (Or.inl ⟨by kernel_rfl, ?_⟩) (by assumption) ?_
      rotate_left
      · ((intro w hSw; go_simp) <;> with_reducible rfl)
      try simp only [wz1, wz2, Act.put, List.setIfInBounds_toArray, List.set_cons_zero, List.set_cons_succ]
      refine Rk.takeP (i := 6) (v := ?_) rfl (by kernel_rfl) (by kernel_rfl) (by kernel_rfl) (by kernel_rfl) (fun _ _ _ h => h) (Or.inl ⟨by kernel_rfl, ?_⟩) (by assumption) ?_
      rotate_left
      · ((intro w hSw; go_simp) <;> with_reducible rfl)
      try simp only [wz1, wz2, Act.put, List.setIfInBounds_toArray, List.set_cons_zero, List.set_cons_succ]
      refine Rk.take [8, 9, 19, 28] (i := 7) (v := ?_) rfl (by kernel_rfl) (by kernel_rfl) (by kernel_rfl) (by kernel_rfl) (by kernel_rfl) (fun _ _ _ h => h) (Or.inl ⟨by kernel_rfl, ?_⟩) (by assumption) ?_
      rotate_left
      · ((intro w hSw; (try dsimp only at hSw); go_simp) <;> with_reducible rfl)
      try simp only [wz1, wz2, Act.put, List.setIfInBounds_toArray, List.set_cons_zero, List.set_cons_succ]
      refine Rk.one (i := 8) (by kernel_rfl) rfl (fun KK hK => ?_)
      rw [if_pos (by kernel_rfl)]
      go_simp
      ((with_reducible refine (OV.out x y _).mono ?_); rintro e u ⟨rfl, hb⟩)
      rw [htt]
      first | (refine hK.out _ _ (fun _ => HS.out _ _ hHeld hb) (fun hHeld => ?_)) | (refine hK.out _ _ (HS.out _ _ hHeld hb) (fun hHeld => ?_)) | (go_wp2_with fail; refine hK.out _ _ (HS.out _ _ hHeld hb) (fun hHeld => ?_))
      clear hK KK
      refine Rk.takeP (i := 9) (v := ?_) rfl (by kernel_rfl) (by kernel_rfl) (by kernel_rfl) (by kernel_rfl) (fun _ _ _ h => h) (Or.inl ⟨by kernel_rfl, ?_⟩) (by assumption) ?_
      rotate_left
      · ((intro w hSw; go_simp) <;> with_reducible rfl)
      try simp only [wz1, wz2, Act.put, List.setIfInBounds_toArray, List.set_cons_zero, List.set_cons_succ]
      refine Rk.takeP (i := 10) (v := ?_) rfl (by kernel_rfl) (by kernel_rfl) (by kernel_rfl) (by kernel_rfl) (fun _ _ _ h => h) (Or.inl ⟨by kernel_rfl, ?_⟩) (by assumption) ?_
      rotate_left
      · ((intro w hSw; go_simp) <;> with_reducible rfl)
      try simp only [wz1, wz2, Act.put, List.setIfInBounds_toArray, List.set_cons_zero, List.set_cons_succ]
      refine Rk.take [17, 18, 19, 28] (i := 11) (v := ?_) rfl (by kernel_rfl) (by kernel_rfl) (by kernel_rfl) (by kernel_rfl) (by kernel_rfl) (fun _ _ _ h => h) (Or.inl ⟨by kernel_rfl, ?_⟩) (by assumption) ?_
      rotate_left
      · ((intro w hSw; (try dsimp only at hSw); go_simp) <;> with_reducible rfl)
      try simp only [wz1, wz2, Act.put, List.setIfInBounds_toArray, List.set_cons_zero, List.set_cons_succ]
      refine Rk.takeP (i := 12) (v := ?_) rfl (by kernel_rfl) (by kernel_rfl) (by kernel_rfl) (by kernel_rfl) (fun _ _ _ h => h) (Or.inl ⟨by kernel_rfl, ?_⟩) (by assumption) ?_
      rotate_left
      · ((intro w hSw; go_simp) <;> with_reducible rfl)
      try simp only [wz1, wz2, Act.put, List.setIfInBounds_toArray, List.set_cons_zero, List.set_cons_succ]
      refine Rk.take [16, 17, 18, 19, 28] (i := 13) (v := ?_) rfl (by kernel_rfl) (by kernel_rfl) (by kernel_rfl) (by kernel_rfl) (by kernel_rfl) (fun _ _ _ h => h) (Or.inl ⟨by kernel_rfl, ?_⟩) (by assumption) ?_
      rotate_left
      · ((intro w hSw; (try dsimp only at hSw); go_simp) <;> with_reducible rfl)
      try simp only [wz1, wz2, Act.put, List.setIfInBounds_toArray, List.set_cons_zero, List.set_cons_succ]
      refine Rk.takeP (i := 14) (v := ?_) rfl (by kernel_rfl) (by kernel_rfl) (by kernel_rfl) (by kernel_rfl) (fun _ _ _ h => h) (Or.inl ⟨by kernel_rfl, ?_⟩) (by assumption) ?_
      rotate_left
      · ((intro w hSw; go_simp) <;> with_reducible rfl)
      try simp only [wz1, wz2, Act.put, List.setIfInBounds_toArray, List.set_cons_zero, List.set_cons_succ]
      refine Rk.take [16, 17, 18, 19, 28] (i := 15) (v := ?_) rfl (by kernel_rfl) (by kernel_rfl) (by kernel_rfl) (by kernel_rfl) (by kernel_rfl) (fun _ _ _ h => h) (Or.inl ⟨by kernel_rfl, ?_⟩) (by assumption) ?_
      rotate_left
      · ((intro w hSw; (try dsimp only at hSw); go_simp) <;> with_reducible rfl)
      try simp only [wz1, wz2, Act.put, List.setIfInBounds_toArray, List.set_cons_zero, List.set_cons_succ]
      refine Rk.takeP (i := 16) (v := ?_) rfl (by kernel_rfl) (by kernel_rfl) (by kernel_rfl) (by kernel_rfl) (fun _ _ _ h => h) (Or.inl ⟨by kernel_rfl, ?_⟩) (by assumption) ?_
      rotate_left
      · ((intro w hSw; go_simp) <;> with_reducible rfl)
      try simp only [wz1, wz2, Act.put, List.setIfInBounds_toArray, List.set_cons_zero, List.set_cons_succ]
      refine Rk.takeP (i := 17) (v := ?_) rfl (by kernel_rfl) (by kernel_rfl) (by kernel_rfl) (by kernel_rfl) (fun _ _ _ h => h) (Or.inl ⟨by kernel_rfl, ?_⟩) (by assumption) ?_
      rotate_left
      · ((intro w hSw; go_simp) <;> with_reducible rfl)
      try simp only [wz1, wz2, Act.put, List.setIfInBounds_toArray, List.set_cons_zero, List.set_cons_succ]
      refine Rk.takeP (i := 18) (v := ?_) rfl (by kernel_rfl) (by kernel_rfl) (by kernel_rfl) (by kernel_rfl) (fun _ _ _ h => h) (Or.inl ⟨by kernel_rfl, ?_⟩) (by assumption) ?_
      rotate_left
      · ((intro w hSw; go_simp) <;> with_reducible rfl)
      try simp only [wz1, wz2, Act.put, List.setIfInBounds_toArray, List.set_cons_zero, List.set_cons_succ]
      refine Rk.takeP (i := 19) (v := ?_) rfl (by kernel_rfl) (by kernel_rfl) (by kernel_rfl) (by kernel_rfl) (fun _ _ _ h => h) (Or.inl ⟨by kernel_rfl, ?_⟩) (by assumption) ?_
      rotate_left
      · ((intro w hSw; go_simp) <;> with_reducible rfl)
      try simp only [wz1, wz2, Act.put, List.setIfInBounds_toArray, List.set_cons_zero, List.set_cons_succ]
      refine Rk.takeP (i := 20) (v := ?_) rfl (by kernel_rfl) (by kernel_rfl) (by kernel_rfl) (by kernel_rfl) (fun _ _ _ h => h) (Or.inl ⟨by kernel_rfl, ?_⟩) (by assumption) ?_
      rotate_left
      · ((intro w hSw; go_simp) <;> with_reducible rfl)
      try simp only [wz1, wz2, Act.put, List.setIfInBounds_toArray, List.set_cons_zero, List.set_cons_succ]
      refine Rk.take [27, 28] (i := 21) (v := ?_) rfl (by kernel_rfl) (by kernel_rfl) (by kernel_rfl) (by kernel_rfl) (by kernel_rfl) (fun _ _ _ h => h) (Or.inl ⟨by kernel_rfl, ?_⟩) (by assumption) ?_
      rotate_left
      · ((intro w hSw; (try dsimp only at hSw); go_simp) <;> with_reducible rfl)
      try simp only [wz1, wz2, Act.put, List.setIfInBounds_toArray, List.set_cons_zero, List.set_cons_succ]
      refine Rk.takeP (i := 22) (v := ?_) rfl (by kernel_rfl) (by kernel_rfl) (by kernel_rfl) (by kernel_rfl) (fun _ _ _ h => h) (Or.inl ⟨by kernel_rfl, ?_⟩) (by assumption) ?_
      rotate_left
      · ((intro w hSw; go_simp) <;> with_reducible rfl)
      try simp only [wz1, wz2, Act.put, List.setIfInBounds_toArray, List.set_cons_zero, List.set_cons_succ]
      refine Rk.take [26, 27, 28] (i := 23) (v := ?_) rfl (by kernel_rfl) (by kernel_rfl) (by kernel_rfl) (by kernel_rfl) (by kernel_rfl) (fun _ _ _ h => h) (Or.inl ⟨by kernel_rfl, ?_⟩) (by assumption) ?_
      rotate_left
      · ((intro w hSw; (try dsimp only at hSw); go_simp) <;> with_reducible rfl)
      try simp only [wz1, wz2, Act.put, List.setIfInBounds_toArray, List.set_cons_zero, List.set_cons_succ]
      refine Rk.takeP (i := 24) (v := ?_) rfl (by kernel_rfl) (by kernel_rfl) (by kernel_rfl) (by kernel_rfl) (fun _ _ _ h => h) (Or.inl ⟨by kernel_rfl, ?_⟩) (by assumption) ?_
      rotate_left
      · ((intro w hSw; go_simp) <;> with_reducible rfl)
      try simp only [wz1, wz2, Act.put, List.setIfInBounds_toArray, List.set_cons_zero, List.set_cons_succ]
      refine Rk.take [26, 27, 28] (i := 25) (v := ?_) rfl (by kernel_rfl) (by kernel_rfl) (by kernel_rfl) (by kernel_rfl) (by kernel_rfl) (fun _ _ _ h => h) (Or.inl ⟨by kernel_rfl, ?_⟩) (by assumption) ?_
      rotate_left
      · ((intro w hSw; (try dsimp only at hSw); go_simp) <;> with_reducible rfl)
      try simp only [wz1, wz2, Act.put, List.setIfInBounds_toArray, List.set_cons_zero, List.set_cons_succ]
      refine Rk.takeP (i := 26) (v := ?_) rfl (by kernel_rfl) (by kernel_rfl) (by kernel_rfl) (by kernel_rfl) (fun _ _ _ h => h) (Or.inl ⟨by kernel_rfl, ?_⟩) (by assumption) ?_
      rotate_left
      · ((intro w hSw; go_simp) <;> with_reducible rfl)
      try simp only [wz1, wz2, Act.put, List.setIfInBounds_toArray, List.set_cons_zero, List.set_cons_succ]
      refine Rk.takeP (i := 27) (v := ?_) rfl (by kernel_rfl) (by kernel_rfl) (by kernel_rfl) (by kernel_rfl) (fun _ _ _ h => h) (Or.inl ⟨by kernel_rfl, ?_⟩) (by assumption) ?_
      rotate_left
      · ((intro w hSw; go_simp) <;> with_reducible rfl)
      try simp only [wz1, wz2, Act.put, List.setIfInBounds_toArray, List.set_cons_zero, List.set_cons_succ]
      refine Rk.tail [28] [_] (by kernel_rfl) (by kernel_rfl) rfl (by decide) ?_
      have KBu := hHeld.2.2.2.2.2.2.2.2.2.2.2.2.2.2
      have BU := Lib.hid (BO2.out.trans (KBu.mono (by have := BO2.out.size; omega)))
      clear hHeld HS hz16 KBu htt wz1 wz2
      go_wp2_with fail
      refine bodyPost_ret (v := .tuple #[.int .i64 (i : Int), .int .i64 21]) (by simp [results, Try.results15, go_sem]) rfl ?_
      exact ⟨ret_two HF.out, BU.out⟩

end Go.Proofs.Ytghnigmmkenddaa.Ar
