/- Linear forms: a digit added, in the reference. -/
import Derived.Test.YtbicmlkjonaccaaDoorJ27
import Derived.Laws.Rows

namespace Go.Proofs.YtbicmlkjonaccaaDoor.Ln
open Go.ChangeShapes Go.WideShapes Go.ChangeAt Go.RowKit
set_option linter.unusedVariables false
set_option linter.unusedSimpArgs false
def dval (d0 d1 d2 d3 d4 d5 : Int) : Int := d0 + d1 * 4294967296 + d2 * 18446744073709551616 + d3 * 79228162514264337593543950336 + d4 * 340282366920938463463374607431768211456 + d5 * 1461501637330902918203684832716283019655932542976
def DW (V : Int) (w : World) (e : Ending) (w' : World) : Prop := ∃ d0 d1 d2 d3 d4 d5 : Int, e = .returned (.agg #[.int .u64 d0, .int .u64 d1, .int .u64 d2, .int .u64 d3, .int .u64 d4, .int .u64 d5]) ∧ ((0 ≤ d0 ∧ d0 < 4294967296) ∧ (0 ≤ d1 ∧ d1 < 4294967296) ∧ (0 ≤ d2 ∧ d2 < 4294967296) ∧ (0 ≤ d3 ∧ d3 < 4294967296) ∧ (0 ≤ d4 ∧ d4 < 4294967296) ∧ (0 ≤ d5 ∧ d5 < 4294967296)) ∧ dval d0 d1 d2 d3 d4 d5 = V ∧ Below w.heap.size w w'
set_option maxRecDepth 100000 in
set_option maxHeartbeats 16000000 in
theorem digit0 (d0 d1 d2 d3 d4 d5 n : Int) (w : World) (hd : (0 ≤ d0 ∧ d0 < 4294967296) ∧ (0 ≤ d1 ∧ d1 < 4294967296) ∧ (0 ≤ d2 ∧ d2 < 4294967296) ∧ (0 ≤ d3 ∧ d3 < 4294967296) ∧ (0 ≤ d4 ∧ d4 < 4294967296) ∧ (0 ≤ d5 ∧ d5 < 4294967296)) (hn : (0 ≤ n ∧ n < 18446744073709551616)) (hv : dval d0 d1 d2 d3 d4 d5 + n * 1 < 6277101735386680763835789423207666416102355444464034512896) :
    Calls Tryd.prog 118 #[.agg #[.int .u64 d0, .int .u64 d1, .int .u64 d2, .int .u64 d3, .int .u64 d4, .int .u64 d5], .int .i64 0, .int .u64 n] w (DW (dval d0 d1 d2 d3 d4 d5 + n * 1) w) := by
  obtain ⟨⟨l0, h0⟩, ⟨l1, h1⟩, ⟨l2, h2⟩, ⟨l3, h3⟩, ⟨l4, h4⟩, ⟨l5, h5⟩⟩ := hd
  obtain ⟨n0, n1⟩ := hn
  obtain ⟨N0, hN0⟩ : ∃ N, N = n := ⟨_, rfl⟩
  obtain ⟨c0, hc0⟩ : ∃ c : Int, c = 0 := ⟨_, rfl⟩
  obtain ⟨q0, hq0⟩ : ∃ q, N0 % 4294967296 = q := ⟨_, rfl⟩
  obtain ⟨u0, hu0⟩ : ∃ u, d0 + q0 = u := ⟨_, rfl⟩
  obtain ⟨s0, hs0⟩ : ∃ s, u0 + c0 = s := ⟨_, rfl⟩
  obtain ⟨r0, hr0⟩ : ∃ r, s0 % 4294967296 = r := ⟨_, rfl⟩
  obtain ⟨c1, hc1⟩ : ∃ c, s0 / 4294967296 = c := ⟨_, rfl⟩
  obtain ⟨N1, hN1⟩ : ∃ N, N0 / 4294967296 = N := ⟨_, rfl⟩
  have bq0 : 0 ≤ q0 ∧ q0 < 4294967296 := by omega
  have bN0 : 0 ≤ N0 ∧ N0 < 18446744073709551616 := by omega
  have bc0 : 0 ≤ c0 ∧ c0 ≤ 1 := by omega
  have bs0 : 0 ≤ s0 ∧ s0 ≤ 8589934591 := by omega
  have br0 : 0 ≤ r0 ∧ r0 < 4294967296 := by omega
  have T0 : r0 * 1 + (c1 + N1) * 4294967296 = (d0 + c0 + N0) * 1 := by omega
  obtain ⟨q1, hq1⟩ : ∃ q, N1 % 4294967296 = q := ⟨_, rfl⟩
  obtain ⟨u1, hu1⟩ : ∃ u, d1 + q1 = u := ⟨_, rfl⟩
  obtain ⟨s1, hs1⟩ : ∃ s, u1 + c1 = s := ⟨_, rfl⟩
  obtain ⟨r1, hr1⟩ : ∃ r, s1 % 4294967296 = r := ⟨_, rfl⟩
  obtain ⟨c2, hc2⟩ : ∃ c, s1 / 4294967296 = c := ⟨_, rfl⟩
  obtain ⟨N2, hN2⟩ : ∃ N, N1 / 4294967296 = N := ⟨_, rfl⟩
  have bq1 : 0 ≤ q1 ∧ q1 < 4294967296 := by omega
  have bN1 : 0 ≤ N1 ∧ N1 < 18446744073709551616 := by omega
  have bc1 : 0 ≤ c1 ∧ c1 ≤ 1 := by omega
  have bs1 : 0 ≤ s1 ∧ s1 ≤ 8589934591 := by omega
  have br1 : 0 ≤ r1 ∧ r1 < 4294967296 := by omega
  have T1 : r1 * 4294967296 + (c2 + N2) * 18446744073709551616 = (d1 + c1 + N1) * 4294967296 := by omega
  obtain ⟨q2, hq2⟩ : ∃ q, N2 % 4294967296 = q := ⟨_, rfl⟩
  obtain ⟨u2, hu2⟩ : ∃ u, d2 + q2 = u := ⟨_, rfl⟩
  obtain ⟨s2, hs2⟩ : ∃ s, u2 + c2 = s := ⟨_, rfl⟩
  obtain ⟨r2, hr2⟩ : ∃ r, s2 % 4294967296 = r := ⟨_, rfl⟩
  obtain ⟨c3, hc3⟩ : ∃ c, s2 / 4294967296 = c := ⟨_, rfl⟩
  obtain ⟨N3, hN3⟩ : ∃ N, N2 / 4294967296 = N := ⟨_, rfl⟩
  have bq2 : 0 ≤ q2 ∧ q2 < 4294967296 := by omega
  have bN2 : 0 ≤ N2 ∧ N2 < 18446744073709551616 := by omega
  have bc2 : 0 ≤ c2 ∧ c2 ≤ 1 := by omega
  have bs2 : 0 ≤ s2 ∧ s2 ≤ 8589934591 := by omega
  have br2 : 0 ≤ r2 ∧ r2 < 4294967296 := by omega
  have T2 : r2 * 18446744073709551616 + (c3 + N3) * 79228162514264337593543950336 = (d2 + c2 + N2) * 18446744073709551616 := by omega
  obtain ⟨q3, hq3⟩ : ∃ q, N3 % 4294967296 = q := ⟨_, rfl⟩
  obtain ⟨u3, hu3⟩ : ∃ u, d3 + q3 = u := ⟨_, rfl⟩
  obtain ⟨s3, hs3⟩ : ∃ s, u3 + c3 = s := ⟨_, rfl⟩
  obtain ⟨r3, hr3⟩ : ∃ r, s3 % 4294967296 = r := ⟨_, rfl⟩
  obtain ⟨c4, hc4⟩ : ∃ c, s3 / 4294967296 = c := ⟨_, rfl⟩
  obtain ⟨N4, hN4⟩ : ∃ N, N3 / 4294967296 = N := ⟨_, rfl⟩
  have bq3 : 0 ≤ q3 ∧ q3 < 4294967296 := by omega
  have bN3 : 0 ≤ N3 ∧ N3 < 18446744073709551616 := by omega
  have bc3 : 0 ≤ c3 ∧ c3 ≤ 1 := by omega
  have bs3 : 0 ≤ s3 ∧ s3 ≤ 8589934591 := by omega
  have br3 : 0 ≤ r3 ∧ r3 < 4294967296 := by omega
  have T3 : r3 * 79228162514264337593543950336 + (c4 + N4) * 340282366920938463463374607431768211456 = (d3 + c3 + N3) * 79228162514264337593543950336 := by omega
  obtain ⟨q4, hq4⟩ : ∃ q, N4 % 4294967296 = q := ⟨_, rfl⟩
  obtain ⟨u4, hu4⟩ : ∃ u, d4 + q4 = u := ⟨_, rfl⟩
  obtain ⟨s4, hs4⟩ : ∃ s, u4 + c4 = s := ⟨_, rfl⟩
  obtain ⟨r4, hr4⟩ : ∃ r, s4 % 4294967296 = r := ⟨_, rfl⟩
  obtain ⟨c5, hc5⟩ : ∃ c, s4 / 4294967296 = c := ⟨_, rfl⟩
  obtain ⟨N5, hN5⟩ : ∃ N, N4 / 4294967296 = N := ⟨_, rfl⟩
  have bq4 : 0 ≤ q4 ∧ q4 < 4294967296 := by omega
  have bN4 : 0 ≤ N4 ∧ N4 < 18446744073709551616 := by omega
  have bc4 : 0 ≤ c4 ∧ c4 ≤ 1 := by omega
  have bs4 : 0 ≤ s4 ∧ s4 ≤ 8589934591 := by omega
  have br4 : 0 ≤ r4 ∧ r4 < 4294967296 := by omega
  have T4 : r4 * 340282366920938463463374607431768211456 + (c5 + N5) * 1461501637330902918203684832716283019655932542976 = (d4 + c4 + N4) * 340282366920938463463374607431768211456 := by omega
  obtain ⟨q5, hq5⟩ : ∃ q, N5 % 4294967296 = q := ⟨_, rfl⟩
  obtain ⟨u5, hu5⟩ : ∃ u, d5 + q5 = u := ⟨_, rfl⟩
  obtain ⟨s5, hs5⟩ : ∃ s, u5 + c5 = s := ⟨_, rfl⟩
  obtain ⟨r5, hr5⟩ : ∃ r, s5 % 4294967296 = r := ⟨_, rfl⟩
  obtain ⟨c6, hc6⟩ : ∃ c, s5 / 4294967296 = c := ⟨_, rfl⟩
  obtain ⟨N6, hN6⟩ : ∃ N, N5 / 4294967296 = N := ⟨_, rfl⟩
  have bq5 : 0 ≤ q5 ∧ q5 < 4294967296 := by omega
  have bN5 : 0 ≤ N5 ∧ N5 < 18446744073709551616 := by omega
  have bc5 : 0 ≤ c5 ∧ c5 ≤ 1 := by omega
  have bs5 : 0 ≤ s5 ∧ s5 ≤ 8589934591 := by omega
  have br5 : 0 ≤ r5 ∧ r5 < 4294967296 := by omega
  have T5 : r5 * 1461501637330902918203684832716283019655932542976 + (c6 + N6) * 6277101735386680763835789423207666416102355444464034512896 = (d5 + c5 + N5) * 1461501637330902918203684832716283019655932542976 := by omega
  have HT : Hid (dval r0 r1 r2 r3 r4 r5 + (c6 + N6) * 6277101735386680763835789423207666416102355444464034512896 = dval d0 d1 d2 d3 d4 d5 + n * 1) := Lib.hid (by unfold dval; omega)
  have bc6 : 0 ≤ c6 := by omega
  have bN6 : 0 ≤ N6 := by omega
  have HB : Hid ((0 ≤ r0 ∧ r0 < 4294967296) ∧ (0 ≤ r1 ∧ r1 < 4294967296) ∧ (0 ≤ r2 ∧ r2 < 4294967296) ∧ (0 ≤ r3 ∧ r3 < 4294967296) ∧ (0 ≤ r4 ∧ r4 < 4294967296) ∧ (0 ≤ r5 ∧ r5 < 4294967296)) := Lib.hid ⟨br0, br1, br2, br3, br4, br5⟩
  have HE : Hid (dval r0 r1 r2 r3 r4 r5 = dval d0 d1 d2 d3 d4 d5 + n * 1) := Lib.hid (by
    have h := HT.out
    have hp : 0 ≤ dval r0 r1 r2 r3 r4 r5 := by unfold dval; omega
    generalize dval r0 r1 r2 r3 r4 r5 = x at *
    generalize dval d0 d1 d2 d3 d4 d5 = y at *
    clear T0 T1 T2 T3 T4 T5
    omega)
  clear T0 T1 T2 T3 T4 T5 HT hv
  subst hN0 hc0
  obtain ⟨xq0, yq0⟩ := bq0
  obtain ⟨xN0, yN0⟩ := bN0
  obtain ⟨xs0, ys0⟩ := bs0
  have wu0 : IntKind.u64.wrap (d0 + q0) = u0 := by rw [hu0, u64w]; omega
  have ws0 : IntKind.u64.wrap (u0 + 0) = s0 := by rw [hs0, u64w]; omega
  obtain ⟨xq1, yq1⟩ := bq1
  obtain ⟨xN1, yN1⟩ := bN1
  obtain ⟨xs1, ys1⟩ := bs1
  have wu1 : IntKind.u64.wrap (d1 + q1) = u1 := by rw [hu1, u64w]; omega
  have ws1 : IntKind.u64.wrap (u1 + c1) = s1 := by rw [hs1, u64w]; omega
  obtain ⟨xq2, yq2⟩ := bq2
  obtain ⟨xN2, yN2⟩ := bN2
  obtain ⟨xs2, ys2⟩ := bs2
  have wu2 : IntKind.u64.wrap (d2 + q2) = u2 := by rw [hu2, u64w]; omega
  have ws2 : IntKind.u64.wrap (u2 + c2) = s2 := by rw [hs2, u64w]; omega
  obtain ⟨xq3, yq3⟩ := bq3
  obtain ⟨xN3, yN3⟩ := bN3
  obtain ⟨xs3, ys3⟩ := bs3
  have wu3 : IntKind.u64.wrap (d3 + q3) = u3 := by rw [hu3, u64w]; omega
  have ws3 : IntKind.u64.wrap (u3 + c3) = s3 := by rw [hs3, u64w]; omega
  obtain ⟨xq4, yq4⟩ := bq4
  obtain ⟨xN4, yN4⟩ := bN4
  obtain ⟨xs4, ys4⟩ := bs4
  have wu4 : IntKind.u64.wrap (d4 + q4) = u4 := by rw [hu4, u64w]; omega
  have ws4 : IntKind.u64.wrap (u4 + c4) = s4 := by rw [hs4, u64w]; omega
  obtain ⟨xq5, yq5⟩ := bq5
  obtain ⟨xN5, yN5⟩ := bN5
  obtain ⟨xs5, ys5⟩ := bs5
  have wu5 : IntKind.u64.wrap (d5 + q5) = u5 := by rw [hu5, u64w]; omega
  have ws5 : IntKind.u64.wrap (u5 + c5) = s5 := by rw [hs5, u64w]; omega
  go_enter Tryd.func118, Tryd.ntmps118
  go_wp2
  refine wp_loop_rounds 7 ?_
  rw [rounds_succ]
  go_wp2
  rw [rounds_succ]
  go_wp2
  rw [rounds_succ]
  go_wp2
  rw [rounds_succ]
  go_wp2
  rw [rounds_succ]
  go_wp2
  rw [rounds_succ]
  go_wp2
  rw [rounds_succ]
  go_wp2
  exact bodyPost_ret (v := .agg #[.int .u64 r0, .int .u64 r1, .int .u64 r2, .int .u64 r3, .int .u64 r4, .int .u64 r5]) (by simp [results, Tryd.results118, go_sem]) rfl ⟨r0, r1, r2, r3, r4, r5, rfl, HB.out, HE.out, ((Below.refl _ _).alloc (Nat.le_refl _) _).alloc (by simp) _⟩
set_option maxRecDepth 100000 in
set_option maxHeartbeats 16000000 in
theorem digit1 (d0 d1 d2 d3 d4 d5 n : Int) (w : World) (hd : (0 ≤ d0 ∧ d0 < 4294967296) ∧ (0 ≤ d1 ∧ d1 < 4294967296) ∧ (0 ≤ d2 ∧ d2 < 4294967296) ∧ (0 ≤ d3 ∧ d3 < 4294967296) ∧ (0 ≤ d4 ∧ d4 < 4294967296) ∧ (0 ≤ d5 ∧ d5 < 4294967296)) (hn : (0 ≤ n ∧ n < 18446744073709551616)) (hv : dval d0 d1 d2 d3 d4 d5 + n * 4294967296 < 6277101735386680763835789423207666416102355444464034512896) :
    Calls Tryd.prog 118 #[.agg #[.int .u64 d0, .int .u64 d1, .int .u64 d2, .int .u64 d3, .int .u64 d4, .int .u64 d5], .int .i64 1, .int .u64 n] w (DW (dval d0 d1 d2 d3 d4 d5 + n * 4294967296) w) := by
  obtain ⟨⟨l0, h0⟩, ⟨l1, h1⟩, ⟨l2, h2⟩, ⟨l3, h3⟩, ⟨l4, h4⟩, ⟨l5, h5⟩⟩ := hd
  obtain ⟨n0, n1⟩ := hn
  obtain ⟨N1, hN1⟩ : ∃ N, N = n := ⟨_, rfl⟩
  obtain ⟨c1, hc1⟩ : ∃ c : Int, c = 0 := ⟨_, rfl⟩
  obtain ⟨q1, hq1⟩ : ∃ q, N1 % 4294967296 = q := ⟨_, rfl⟩
  obtain ⟨u1, hu1⟩ : ∃ u, d1 + q1 = u := ⟨_, rfl⟩
  obtain ⟨s1, hs1⟩ : ∃ s, u1 + c1 = s := ⟨_, rfl⟩
  obtain ⟨r1, hr1⟩ : ∃ r, s1 % 4294967296 = r := ⟨_, rfl⟩
  obtain ⟨c2, hc2⟩ : ∃ c, s1 / 4294967296 = c := ⟨_, rfl⟩
  obtain ⟨N2, hN2⟩ : ∃ N, N1 / 4294967296 = N := ⟨_, rfl⟩
  have bq1 : 0 ≤ q1 ∧ q1 < 4294967296 := by omega
  have bN1 : 0 ≤ N1 ∧ N1 < 18446744073709551616 := by omega
  have bc1 : 0 ≤ c1 ∧ c1 ≤ 1 := by omega
  have bs1 : 0 ≤ s1 ∧ s1 ≤ 8589934591 := by omega
  have br1 : 0 ≤ r1 ∧ r1 < 4294967296 := by omega
  have T1 : r1 * 4294967296 + (c2 + N2) * 18446744073709551616 = (d1 + c1 + N1) * 4294967296 := by omega
  obtain ⟨q2, hq2⟩ : ∃ q, N2 % 4294967296 = q := ⟨_, rfl⟩
  obtain ⟨u2, hu2⟩ : ∃ u, d2 + q2 = u := ⟨_, rfl⟩
  obtain ⟨s2, hs2⟩ : ∃ s, u2 + c2 = s := ⟨_, rfl⟩
  obtain ⟨r2, hr2⟩ : ∃ r, s2 % 4294967296 = r := ⟨_, rfl⟩
  obtain ⟨c3, hc3⟩ : ∃ c, s2 / 4294967296 = c := ⟨_, rfl⟩
  obtain ⟨N3, hN3⟩ : ∃ N, N2 / 4294967296 = N := ⟨_, rfl⟩
  have bq2 : 0 ≤ q2 ∧ q2 < 4294967296 := by omega
  have bN2 : 0 ≤ N2 ∧ N2 < 18446744073709551616 := by omega
  have bc2 : 0 ≤ c2 ∧ c2 ≤ 1 := by omega
  have bs2 : 0 ≤ s2 ∧ s2 ≤ 8589934591 := by omega
  have br2 : 0 ≤ r2 ∧ r2 < 4294967296 := by omega
  have T2 : r2 * 18446744073709551616 + (c3 + N3) * 79228162514264337593543950336 = (d2 + c2 + N2) * 18446744073709551616 := by omega
  obtain ⟨q3, hq3⟩ : ∃ q, N3 % 4294967296 = q := ⟨_, rfl⟩
  obtain ⟨u3, hu3⟩ : ∃ u, d3 + q3 = u := ⟨_, rfl⟩
  obtain ⟨s3, hs3⟩ : ∃ s, u3 + c3 = s := ⟨_, rfl⟩
  obtain ⟨r3, hr3⟩ : ∃ r, s3 % 4294967296 = r := ⟨_, rfl⟩
  obtain ⟨c4, hc4⟩ : ∃ c, s3 / 4294967296 = c := ⟨_, rfl⟩
  obtain ⟨N4, hN4⟩ : ∃ N, N3 / 4294967296 = N := ⟨_, rfl⟩
  have bq3 : 0 ≤ q3 ∧ q3 < 4294967296 := by omega
  have bN3 : 0 ≤ N3 ∧ N3 < 18446744073709551616 := by omega
  have bc3 : 0 ≤ c3 ∧ c3 ≤ 1 := by omega
  have bs3 : 0 ≤ s3 ∧ s3 ≤ 8589934591 := by omega
  have br3 : 0 ≤ r3 ∧ r3 < 4294967296 := by omega
  have T3 : r3 * 79228162514264337593543950336 + (c4 + N4) * 340282366920938463463374607431768211456 = (d3 + c3 + N3) * 79228162514264337593543950336 := by omega
  obtain ⟨q4, hq4⟩ : ∃ q, N4 % 4294967296 = q := ⟨_, rfl⟩
  obtain ⟨u4, hu4⟩ : ∃ u, d4 + q4 = u := ⟨_, rfl⟩
  obtain ⟨s4, hs4⟩ : ∃ s, u4 + c4 = s := ⟨_, rfl⟩
  obtain ⟨r4, hr4⟩ : ∃ r, s4 % 4294967296 = r := ⟨_, rfl⟩
  obtain ⟨c5, hc5⟩ : ∃ c, s4 / 4294967296 = c := ⟨_, rfl⟩
  obtain ⟨N5, hN5⟩ : ∃ N, N4 / 4294967296 = N := ⟨_, rfl⟩
  have bq4 : 0 ≤ q4 ∧ q4 < 4294967296 := by omega
  have bN4 : 0 ≤ N4 ∧ N4 < 18446744073709551616 := by omega
  have bc4 : 0 ≤ c4 ∧ c4 ≤ 1 := by omega
  have bs4 : 0 ≤ s4 ∧ s4 ≤ 8589934591 := by omega
  have br4 : 0 ≤ r4 ∧ r4 < 4294967296 := by omega
  have T4 : r4 * 340282366920938463463374607431768211456 + (c5 + N5) * 1461501637330902918203684832716283019655932542976 = (d4 + c4 + N4) * 340282366920938463463374607431768211456 := by omega
  obtain ⟨q5, hq5⟩ : ∃ q, N5 % 4294967296 = q := ⟨_, rfl⟩
  obtain ⟨u5, hu5⟩ : ∃ u, d5 + q5 = u := ⟨_, rfl⟩
  obtain ⟨s5, hs5⟩ : ∃ s, u5 + c5 = s := ⟨_, rfl⟩
  obtain ⟨r5, hr5⟩ : ∃ r, s5 % 4294967296 = r := ⟨_, rfl⟩
  obtain ⟨c6, hc6⟩ : ∃ c, s5 / 4294967296 = c := ⟨_, rfl⟩
  obtain ⟨N6, hN6⟩ : ∃ N, N5 / 4294967296 = N := ⟨_, rfl⟩
  have bq5 : 0 ≤ q5 ∧ q5 < 4294967296 := by omega
  have bN5 : 0 ≤ N5 ∧ N5 < 18446744073709551616 := by omega
  have bc5 : 0 ≤ c5 ∧ c5 ≤ 1 := by omega
  have bs5 : 0 ≤ s5 ∧ s5 ≤ 8589934591 := by omega
  have br5 : 0 ≤ r5 ∧ r5 < 4294967296 := by omega
  have T5 : r5 * 1461501637330902918203684832716283019655932542976 + (c6 + N6) * 6277101735386680763835789423207666416102355444464034512896 = (d5 + c5 + N5) * 1461501637330902918203684832716283019655932542976 := by omega
  have HT : Hid (dval d0 r1 r2 r3 r4 r5 + (c6 + N6) * 6277101735386680763835789423207666416102355444464034512896 = dval d0 d1 d2 d3 d4 d5 + n * 4294967296) := Lib.hid (by unfold dval; omega)
  have bc6 : 0 ≤ c6 := by omega
  have bN6 : 0 ≤ N6 := by omega
  have HB : Hid ((0 ≤ d0 ∧ d0 < 4294967296) ∧ (0 ≤ r1 ∧ r1 < 4294967296) ∧ (0 ≤ r2 ∧ r2 < 4294967296) ∧ (0 ≤ r3 ∧ r3 < 4294967296) ∧ (0 ≤ r4 ∧ r4 < 4294967296) ∧ (0 ≤ r5 ∧ r5 < 4294967296)) := Lib.hid ⟨⟨l0, h0⟩, br1, br2, br3, br4, br5⟩
  have HE : Hid (dval d0 r1 r2 r3 r4 r5 = dval d0 d1 d2 d3 d4 d5 + n * 4294967296) := Lib.hid (by
    have h := HT.out
    have hp : 0 ≤ dval d0 r1 r2 r3 r4 r5 := by unfold dval; omega
    generalize dval d0 r1 r2 r3 r4 r5 = x at *
    generalize dval d0 d1 d2 d3 d4 d5 = y at *
    clear T1 T2 T3 T4 T5
    omega)
  clear T1 T2 T3 T4 T5 HT hv
  subst hN1 hc1
  obtain ⟨xq1, yq1⟩ := bq1
  obtain ⟨xN1, yN1⟩ := bN1
  obtain ⟨xs1, ys1⟩ := bs1
  have wu1 : IntKind.u64.wrap (d1 + q1) = u1 := by rw [hu1, u64w]; omega
  have ws1 : IntKind.u64.wrap (u1 + 0) = s1 := by rw [hs1, u64w]; omega
  obtain ⟨xq2, yq2⟩ := bq2
  obtain ⟨xN2, yN2⟩ := bN2
  obtain ⟨xs2, ys2⟩ := bs2
  have wu2 : IntKind.u64.wrap (d2 + q2) = u2 := by rw [hu2, u64w]; omega
  have ws2 : IntKind.u64.wrap (u2 + c2) = s2 := by rw [hs2, u64w]; omega
  obtain ⟨xq3, yq3⟩ := bq3
  obtain ⟨xN3, yN3⟩ := bN3
  obtain ⟨xs3, ys3⟩ := bs3
  have wu3 : IntKind.u64.wrap (d3 + q3) = u3 := by rw [hu3, u64w]; omega
  have ws3 : IntKind.u64.wrap (u3 + c3) = s3 := by rw [hs3, u64w]; omega
  obtain ⟨xq4, yq4⟩ := bq4
  obtain ⟨xN4, yN4⟩ := bN4
  obtain ⟨xs4, ys4⟩ := bs4
  have wu4 : IntKind.u64.wrap (d4 + q4) = u4 := by rw [hu4, u64w]; omega
  have ws4 : IntKind.u64.wrap (u4 + c4) = s4 := by rw [hs4, u64w]; omega
  obtain ⟨xq5, yq5⟩ := bq5
  obtain ⟨xN5, yN5⟩ := bN5
  obtain ⟨xs5, ys5⟩ := bs5
  have wu5 : IntKind.u64.wrap (d5 + q5) = u5 := by rw [hu5, u64w]; omega
  have ws5 : IntKind.u64.wrap (u5 + c5) = s5 := by rw [hs5, u64w]; omega
  go_enter Tryd.func118, Tryd.ntmps118
  go_wp2
  refine wp_loop_rounds 6 ?_
  rw [rounds_succ]
  go_wp2
  rw [rounds_succ]
  go_wp2
  rw [rounds_succ]
  go_wp2
  rw [rounds_succ]
  go_wp2
  rw [rounds_succ]
  go_wp2
  rw [rounds_succ]
  go_wp2
  exact bodyPost_ret (v := .agg #[.int .u64 d0, .int .u64 r1, .int .u64 r2, .int .u64 r3, .int .u64 r4, .int .u64 r5]) (by simp [results, Tryd.results118, go_sem]) rfl ⟨d0, r1, r2, r3, r4, r5, rfl, HB.out, HE.out, ((Below.refl _ _).alloc (Nat.le_refl _) _).alloc (by simp) _⟩
set_option maxRecDepth 100000 in
set_option maxHeartbeats 16000000 in
theorem digit2 (d0 d1 d2 d3 d4 d5 n : Int) (w : World) (hd : (0 ≤ d0 ∧ d0 < 4294967296) ∧ (0 ≤ d1 ∧ d1 < 4294967296) ∧ (0 ≤ d2 ∧ d2 < 4294967296) ∧ (0 ≤ d3 ∧ d3 < 4294967296) ∧ (0 ≤ d4 ∧ d4 < 4294967296) ∧ (0 ≤ d5 ∧ d5 < 4294967296)) (hn : (0 ≤ n ∧ n < 18446744073709551616)) (hv : dval d0 d1 d2 d3 d4 d5 + n * 18446744073709551616 < 6277101735386680763835789423207666416102355444464034512896) :
    Calls Tryd.prog 118 #[.agg #[.int .u64 d0, .int .u64 d1, .int .u64 d2, .int .u64 d3, .int .u64 d4, .int .u64 d5], .int .i64 2, .int .u64 n] w (DW (dval d0 d1 d2 d3 d4 d5 + n * 18446744073709551616) w) := by
  obtain ⟨⟨l0, h0⟩, ⟨l1, h1⟩, ⟨l2, h2⟩, ⟨l3, h3⟩, ⟨l4, h4⟩, ⟨l5, h5⟩⟩ := hd
  obtain ⟨n0, n1⟩ := hn
  obtain ⟨N2, hN2⟩ : ∃ N, N = n := ⟨_, rfl⟩
  obtain ⟨c2, hc2⟩ : ∃ c : Int, c = 0 := ⟨_, rfl⟩
  obtain ⟨q2, hq2⟩ : ∃ q, N2 % 4294967296 = q := ⟨_, rfl⟩
  obtain ⟨u2, hu2⟩ : ∃ u, d2 + q2 = u := ⟨_, rfl⟩
  obtain ⟨s2, hs2⟩ : ∃ s, u2 + c2 = s := ⟨_, rfl⟩
  obtain ⟨r2, hr2⟩ : ∃ r, s2 % 4294967296 = r := ⟨_, rfl⟩
  obtain ⟨c3, hc3⟩ : ∃ c, s2 / 4294967296 = c := ⟨_, rfl⟩
  obtain ⟨N3, hN3⟩ : ∃ N, N2 / 4294967296 = N := ⟨_, rfl⟩
  have bq2 : 0 ≤ q2 ∧ q2 < 4294967296 := by omega
  have bN2 : 0 ≤ N2 ∧ N2 < 18446744073709551616 := by omega
  have bc2 : 0 ≤ c2 ∧ c2 ≤ 1 := by omega
  have bs2 : 0 ≤ s2 ∧ s2 ≤ 8589934591 := by omega
  have br2 : 0 ≤ r2 ∧ r2 < 4294967296 := by omega
  have T2 : r2 * 18446744073709551616 + (c3 + N3) * 79228162514264337593543950336 = (d2 + c2 + N2) * 18446744073709551616 := by omega
  obtain ⟨q3, hq3⟩ : ∃ q, N3 % 4294967296 = q := ⟨_, rfl⟩
  obtain ⟨u3, hu3⟩ : ∃ u, d3 + q3 = u := ⟨_, rfl⟩
  obtain ⟨s3, hs3⟩ : ∃ s, u3 + c3 = s := ⟨_, rfl⟩
  obtain ⟨r3, hr3⟩ : ∃ r, s3 % 4294967296 = r := ⟨_, rfl⟩
  obtain ⟨c4, hc4⟩ : ∃ c, s3 / 4294967296 = c := ⟨_, rfl⟩
  obtain ⟨N4, hN4⟩ : ∃ N, N3 / 4294967296 = N := ⟨_, rfl⟩
  have bq3 : 0 ≤ q3 ∧ q3 < 4294967296 := by omega
  have bN3 : 0 ≤ N3 ∧ N3 < 18446744073709551616 := by omega
  have bc3 : 0 ≤ c3 ∧ c3 ≤ 1 := by omega
  have bs3 : 0 ≤ s3 ∧ s3 ≤ 8589934591 := by omega
  have br3 : 0 ≤ r3 ∧ r3 < 4294967296 := by omega
  have T3 : r3 * 79228162514264337593543950336 + (c4 + N4) * 340282366920938463463374607431768211456 = (d3 + c3 + N3) * 79228162514264337593543950336 := by omega
  obtain ⟨q4, hq4⟩ : ∃ q, N4 % 4294967296 = q := ⟨_, rfl⟩
  obtain ⟨u4, hu4⟩ : ∃ u, d4 + q4 = u := ⟨_, rfl⟩
  obtain ⟨s4, hs4⟩ : ∃ s, u4 + c4 = s := ⟨_, rfl⟩
  obtain ⟨r4, hr4⟩ : ∃ r, s4 % 4294967296 = r := ⟨_, rfl⟩
  obtain ⟨c5, hc5⟩ : ∃ c, s4 / 4294967296 = c := ⟨_, rfl⟩
  obtain ⟨N5, hN5⟩ : ∃ N, N4 / 4294967296 = N := ⟨_, rfl⟩
  have bq4 : 0 ≤ q4 ∧ q4 < 4294967296 := by omega
  have bN4 : 0 ≤ N4 ∧ N4 < 18446744073709551616 := by omega
  have bc4 : 0 ≤ c4 ∧ c4 ≤ 1 := by omega
  have bs4 : 0 ≤ s4 ∧ s4 ≤ 8589934591 := by omega
  have br4 : 0 ≤ r4 ∧ r4 < 4294967296 := by omega
  have T4 : r4 * 340282366920938463463374607431768211456 + (c5 + N5) * 1461501637330902918203684832716283019655932542976 = (d4 + c4 + N4) * 340282366920938463463374607431768211456 := by omega
  obtain ⟨q5, hq5⟩ : ∃ q, N5 % 4294967296 = q := ⟨_, rfl⟩
  obtain ⟨u5, hu5⟩ : ∃ u, d5 + q5 = u := ⟨_, rfl⟩
  obtain ⟨s5, hs5⟩ : ∃ s, u5 + c5 = s := ⟨_, rfl⟩
  obtain ⟨r5, hr5⟩ : ∃ r, s5 % 4294967296 = r := ⟨_, rfl⟩
  obtain ⟨c6, hc6⟩ : ∃ c, s5 / 4294967296 = c := ⟨_, rfl⟩
  obtain ⟨N6, hN6⟩ : ∃ N, N5 / 4294967296 = N := ⟨_, rfl⟩
  have bq5 : 0 ≤ q5 ∧ q5 < 4294967296 := by omega
  have bN5 : 0 ≤ N5 ∧ N5 < 18446744073709551616 := by omega
  have bc5 : 0 ≤ c5 ∧ c5 ≤ 1 := by omega
  have bs5 : 0 ≤ s5 ∧ s5 ≤ 8589934591 := by omega
  have br5 : 0 ≤ r5 ∧ r5 < 4294967296 := by omega
  have T5 : r5 * 1461501637330902918203684832716283019655932542976 + (c6 + N6) * 6277101735386680763835789423207666416102355444464034512896 = (d5 + c5 + N5) * 1461501637330902918203684832716283019655932542976 := by omega
  have HT : Hid (dval d0 d1 r2 r3 r4 r5 + (c6 + N6) * 6277101735386680763835789423207666416102355444464034512896 = dval d0 d1 d2 d3 d4 d5 + n * 18446744073709551616) := Lib.hid (by unfold dval; omega)
  have bc6 : 0 ≤ c6 := by omega
  have bN6 : 0 ≤ N6 := by omega
  have HB : Hid ((0 ≤ d0 ∧ d0 < 4294967296) ∧ (0 ≤ d1 ∧ d1 < 4294967296) ∧ (0 ≤ r2 ∧ r2 < 4294967296) ∧ (0 ≤ r3 ∧ r3 < 4294967296) ∧ (0 ≤ r4 ∧ r4 < 4294967296) ∧ (0 ≤ r5 ∧ r5 < 4294967296)) := Lib.hid ⟨⟨l0, h0⟩, ⟨l1, h1⟩, br2, br3, br4, br5⟩
  have HE : Hid (dval d0 d1 r2 r3 r4 r5 = dval d0 d1 d2 d3 d4 d5 + n * 18446744073709551616) := Lib.hid (by
    have h := HT.out
    have hp : 0 ≤ dval d0 d1 r2 r3 r4 r5 := by unfold dval; omega
    generalize dval d0 d1 r2 r3 r4 r5 = x at *
    generalize dval d0 d1 d2 d3 d4 d5 = y at *
    clear T2 T3 T4 T5
    omega)
  clear T2 T3 T4 T5 HT hv
  subst hN2 hc2
  obtain ⟨xq2, yq2⟩ := bq2
  obtain ⟨xN2, yN2⟩ := bN2
  obtain ⟨xs2, ys2⟩ := bs2
  have wu2 : IntKind.u64.wrap (d2 + q2) = u2 := by rw [hu2, u64w]; omega
  have ws2 : IntKind.u64.wrap (u2 + 0) = s2 := by rw [hs2, u64w]; omega
  obtain ⟨xq3, yq3⟩ := bq3
  obtain ⟨xN3, yN3⟩ := bN3
  obtain ⟨xs3, ys3⟩ := bs3
  have wu3 : IntKind.u64.wrap (d3 + q3) = u3 := by rw [hu3, u64w]; omega
  have ws3 : IntKind.u64.wrap (u3 + c3) = s3 := by rw [hs3, u64w]; omega
  obtain ⟨xq4, yq4⟩ := bq4
  obtain ⟨xN4, yN4⟩ := bN4
  obtain ⟨xs4, ys4⟩ := bs4
  have wu4 : IntKind.u64.wrap (d4 + q4) = u4 := by rw [hu4, u64w]; omega
  have ws4 : IntKind.u64.wrap (u4 + c4) = s4 := by rw [hs4, u64w]; omega
  obtain ⟨xq5, yq5⟩ := bq5
  obtain ⟨xN5, yN5⟩ := bN5
  obtain ⟨xs5, ys5⟩ := bs5
  have wu5 : IntKind.u64.wrap (d5 + q5) = u5 := by rw [hu5, u64w]; omega
  have ws5 : IntKind.u64.wrap (u5 + c5) = s5 := by rw [hs5, u64w]; omega
  go_enter Tryd.func118, Tryd.ntmps118
  go_wp2
  refine wp_loop_rounds 5 ?_
  rw [rounds_succ]
  go_wp2
  rw [rounds_succ]
  go_wp2
  rw [rounds_succ]
  go_wp2
  rw [rounds_succ]
  go_wp2
  rw [rounds_succ]
  go_wp2
  exact bodyPost_ret (v := .agg #[.int .u64 d0, .int .u64 d1, .int .u64 r2, .int .u64 r3, .int .u64 r4, .int .u64 r5]) (by simp [results, Tryd.results118, go_sem]) rfl ⟨d0, d1, r2, r3, r4, r5, rfl, HB.out, HE.out, ((Below.refl _ _).alloc (Nat.le_refl _) _).alloc (by simp) _⟩
end Go.Proofs.YtbicmlkjonaccaaDoor.Ln
