/- Linear forms: the index of a binding. -/
import Derived.Test.YtbicmlkjonaccaaDoorK4
import Derived.Laws.Rows

namespace Go.Proofs.YtbicmlkjonaccaaDoor.Ln
open Go.ChangeShapes Go.WideShapes Go.ChangeAt Go.RowKit
set_option linter.unusedVariables false
set_option linter.unusedSimpArgs false

theorem not_mem_of {es : List Mo} {s : ByteArray} {j : Nat} (hj : j = es.length) (h : ∀ i, i < j -> (es.getD i mo0).1 ≠ s) : s ∉ es.map (·.1) := by
 intro hm
 obtain ⟨m, hm, e⟩ := List.mem_map.1 hm
 obtain ⟨i, hi, rfl⟩ := List.getElem_of_mem hm
 refine h i (by omega) ?_
 rw [show es.getD i mo0 = es[i] by unfold List.getD; rw [List.getElem?_eq_getElem hi]; rfl]
 exact e
theorem co_first {s : ByteArray} : ∀ {es : List Mo} {j : Nat}, j < es.length -> (∀ i, i < j -> (es.getD i mo0).1 ≠ s) -> (es.getD j mo0).1 = s -> (es.getD j mo0).2 = co es s
 | [], j, hj, _, _ => by simp at hj
 | x :: r, 0, _, _, he => by
  have he' : x.1 = s := he
  rw [co_cons, if_pos he']
  rfl
 | x :: r, j + 1, hj, h, he => by
  have h0 : x.1 ≠ s := h 0 (by omega)
  rw [co_cons, if_neg h0]
  exact co_first (es := r) (by simpa using hj) (fun i hi => h (i + 1) (by omega)) he

end Go.Proofs.YtbicmlkjonaccaaDoor.Ln


namespace Go.Proofs.YtbicmlkjonaccaaDoor.Ln
open Go.ChangeShapes Go.WideShapes Go.ChangeAt Go.RowKit
set_option linter.unusedVariables false
set_option linter.unusedSimpArgs false
def evS (es : List Mo) : List Mo -> Int
 | [] => 0
 | m :: r => m.2 * co es m.1 + evS es r
theorem evS_app (es l r : List Mo) : evS es (l ++ r) = evS es l + evS es r := by
 induction l with
 | nil => simp [evS]
 | cons m l ih => rw [List.cons_append, evS, evS, ih]; omega
/-- The value of a form, or the error. -/
def EV (k : Int) (xs es : List Mo) (x e : Int) : Prop :=
 (okL xs = false /\ x = 0 /\ e = 1) \/ (okL xs = true /\ (∃ m ∈ xs, m.1 ∉ es.map (·.1)) /\ x = 0 /\ e = 9) \/
 (okL xs = true /\ (∀ m ∈ xs, m.1 ∈ es.map (·.1)) /\ fit64 (k + evS es xs) = true /\ x = k + evS es xs /\ e = 0) \/ (okL xs = true /\ (∀ m ∈ xs, m.1 ∈ es.map (·.1)) /\ fit64 (k + evS es xs) = false /\ x = 0 /\ e = 3)
theorem EV_one {k : Int} {xs es : List Mo} {x e y f : Int} (h : EV k xs es x e) (h2 : EV k xs es y f) : x = y /\ e = f := by
 rcases h with ⟨a, rfl, rfl⟩ | ⟨a, ⟨m, hm, b⟩, rfl, rfl⟩ | ⟨a, b, c, rfl, rfl⟩ | ⟨a, b, c, rfl, rfl⟩
 all_goals
  rcases h2 with ⟨a', rfl, rfl⟩ | ⟨a', ⟨m', hm', b'⟩, rfl, rfl⟩ | ⟨a', b', c', rfl, rfl⟩ | ⟨a', b', c', rfl, rfl⟩
  all_goals first | exact ⟨rfl, rfl⟩ | (rw [a] at a'; cases a'; done) | exact absurd (b' m hm) b | exact absurd (b m' hm') b' | (rw [c] at c'; cases c'; done)
def EW (k : Int) (xs es : List Mo) (w : World) (e : Ending) (w' : World) : Prop := ∃ x er, e = .returned (.tuple #[.int .i64 x, .int .i64 er]) /\ EV k xs es x er /\ Below w.heap.size w w'

end Go.Proofs.YtbicmlkjonaccaaDoor.Ln


namespace Go.Proofs.YtbicmlkjonaccaaDoor.Ln
open Go.ChangeShapes Go.WideShapes Go.ChangeAt Go.RowKit
set_option linter.unusedVariables false
set_option linter.unusedSimpArgs false
def dval (d0 d1 d2 d3 d4 d5 : Int) : Int := d0 + d1 * 4294967296 + d2 * 18446744073709551616 + d3 * 79228162514264337593543950336 + d4 * 340282366920938463463374607431768211456 + d5 * 1461501637330902918203684832716283019655932542976
def DW (V : Int) (w : World) (e : Ending) (w' : World) : Prop := ∃ d0 d1 d2 d3 d4 d5 : Int, e = .returned (.agg #[.int .u64 d0, .int .u64 d1, .int .u64 d2, .int .u64 d3, .int .u64 d4, .int .u64 d5]) /\ ((0 <= d0 /\ d0 < 4294967296) /\ (0 <= d1 /\ d1 < 4294967296) /\ (0 <= d2 /\ d2 < 4294967296) /\ (0 <= d3 /\ d3 < 4294967296) /\ (0 <= d4 /\ d4 < 4294967296) /\ (0 <= d5 /\ d5 < 4294967296)) /\ dval d0 d1 d2 d3 d4 d5 = V /\ Below w.heap.size w w'
set_option maxRecDepth 100000 in
set_option maxHeartbeats 16000000 in
theorem digit0 (d0 d1 d2 d3 d4 d5 n : Int) (w : World) (hd : (0 <= d0 /\ d0 < 4294967296) /\ (0 <= d1 /\ d1 < 4294967296) /\ (0 <= d2 /\ d2 < 4294967296) /\ (0 <= d3 /\ d3 < 4294967296) /\ (0 <= d4 /\ d4 < 4294967296) /\ (0 <= d5 /\ d5 < 4294967296)) (hn : (0 <= n /\ n < 18446744073709551616)) (hv : dval d0 d1 d2 d3 d4 d5 + n * 1 < 6277101735386680763835789423207666416102355444464034512896) :
  Calls Tryd.prog 118 #[.agg #[.int .u64 d0, .int .u64 d1, .int .u64 d2, .int .u64 d3, .int .u64 d4, .int .u64 d5], .int .i64 0, .int .u64 n] w (DW (dval d0 d1 d2 d3 d4 d5 + n * 1) w) := by
 obtain ⟨⟨l0, h0⟩, ⟨l1, h1⟩, ⟨l2, h2⟩, ⟨l3, h3⟩, ⟨l4, h4⟩, ⟨l5, h5⟩⟩ := hd
 obtain ⟨n0, n1⟩ := hn
 obtain ⟨N0, hN0⟩ : ∃ N, N = n := ⟨_, rfl⟩
 obtain ⟨c0, hc0⟩ : ∃ c : Int, c = 0 := ⟨_, rfl⟩
 obtain ⟨q0, hq0⟩ : ∃ q, N0 % 4294967296 = q := ⟨_, rfl⟩
 obtain ⟨u0, hu0⟩ : ∃ u, d0 + q0 = u := ⟨_, rfl⟩
 obtain ⟨s0, hs0⟩ : ∃ s, u0 + c0 = s := ⟨_, rfl⟩
 obtain ⟨r0, hr0⟩ : ∃ r, s0 % 4294967296 = r := ⟨_, rfl⟩
 obtain ⟨c1, hc1⟩ : ∃ c, s0 / 4294967296 = c := ⟨_, rfl⟩
 obtain ⟨N1, hN1⟩ : ∃ N, N0 / 4294967296 = N := ⟨_, rfl⟩
 have bq0 : 0 <= q0 /\ q0 < 4294967296 := by omega
 have bN0 : 0 <= N0 /\ N0 < 18446744073709551616 := by omega
 have bc0 : 0 <= c0 /\ c0 <= 1 := by omega
 have bs0 : 0 <= s0 /\ s0 <= 8589934591 := by omega
 have br0 : 0 <= r0 /\ r0 < 4294967296 := by omega
 have T0 : r0 * 1 + (c1 + N1) * 4294967296 = (d0 + c0 + N0) * 1 := by omega
 obtain ⟨q1, hq1⟩ : ∃ q, N1 % 4294967296 = q := ⟨_, rfl⟩
 obtain ⟨u1, hu1⟩ : ∃ u, d1 + q1 = u := ⟨_, rfl⟩
 obtain ⟨s1, hs1⟩ : ∃ s, u1 + c1 = s := ⟨_, rfl⟩
 obtain ⟨r1, hr1⟩ : ∃ r, s1 % 4294967296 = r := ⟨_, rfl⟩
 obtain ⟨c2, hc2⟩ : ∃ c, s1 / 4294967296 = c := ⟨_, rfl⟩
 obtain ⟨N2, hN2⟩ : ∃ N, N1 / 4294967296 = N := ⟨_, rfl⟩
 have bq1 : 0 <= q1 /\ q1 < 4294967296 := by omega
 have bN1 : 0 <= N1 /\ N1 < 18446744073709551616 := by omega
 have bc1 : 0 <= c1 /\ c1 <= 1 := by omega
 have bs1 : 0 <= s1 /\ s1 <= 8589934591 := by omega
 have br1 : 0 <= r1 /\ r1 < 4294967296 := by omega
 have T1 : r1 * 4294967296 + (c2 + N2) * 18446744073709551616 = (d1 + c1 + N1) * 4294967296 := by omega
 obtain ⟨q2, hq2⟩ : ∃ q, N2 % 4294967296 = q := ⟨_, rfl⟩
 obtain ⟨u2, hu2⟩ : ∃ u, d2 + q2 = u := ⟨_, rfl⟩
 obtain ⟨s2, hs2⟩ : ∃ s, u2 + c2 = s := ⟨_, rfl⟩
 obtain ⟨r2, hr2⟩ : ∃ r, s2 % 4294967296 = r := ⟨_, rfl⟩
 obtain ⟨c3, hc3⟩ : ∃ c, s2 / 4294967296 = c := ⟨_, rfl⟩
 obtain ⟨N3, hN3⟩ : ∃ N, N2 / 4294967296 = N := ⟨_, rfl⟩
 have bq2 : 0 <= q2 /\ q2 < 4294967296 := by omega
 have bN2 : 0 <= N2 /\ N2 < 18446744073709551616 := by omega
 have bc2 : 0 <= c2 /\ c2 <= 1 := by omega
 have bs2 : 0 <= s2 /\ s2 <= 8589934591 := by omega
 have br2 : 0 <= r2 /\ r2 < 4294967296 := by omega
 have T2 : r2 * 18446744073709551616 + (c3 + N3) * 79228162514264337593543950336 = (d2 + c2 + N2) * 18446744073709551616 := by omega
 obtain ⟨q3, hq3⟩ : ∃ q, N3 % 4294967296 = q := ⟨_, rfl⟩
 obtain ⟨u3, hu3⟩ : ∃ u, d3 + q3 = u := ⟨_, rfl⟩
 obtain ⟨s3, hs3⟩ : ∃ s, u3 + c3 = s := ⟨_, rfl⟩
 obtain ⟨r3, hr3⟩ : ∃ r, s3 % 4294967296 = r := ⟨_, rfl⟩
 obtain ⟨c4, hc4⟩ : ∃ c, s3 / 4294967296 = c := ⟨_, rfl⟩
 obtain ⟨N4, hN4⟩ : ∃ N, N3 / 4294967296 = N := ⟨_, rfl⟩
 have bq3 : 0 <= q3 /\ q3 < 4294967296 := by omega
 have bN3 : 0 <= N3 /\ N3 < 18446744073709551616 := by omega
 have bc3 : 0 <= c3 /\ c3 <= 1 := by omega
 have bs3 : 0 <= s3 /\ s3 <= 8589934591 := by omega
 have br3 : 0 <= r3 /\ r3 < 4294967296 := by omega
 have T3 : r3 * 79228162514264337593543950336 + (c4 + N4) * 340282366920938463463374607431768211456 = (d3 + c3 + N3) * 79228162514264337593543950336 := by omega
 obtain ⟨q4, hq4⟩ : ∃ q, N4 % 4294967296 = q := ⟨_, rfl⟩
 obtain ⟨u4, hu4⟩ : ∃ u, d4 + q4 = u := ⟨_, rfl⟩
 obtain ⟨s4, hs4⟩ : ∃ s, u4 + c4 = s := ⟨_, rfl⟩
 obtain ⟨r4, hr4⟩ : ∃ r, s4 % 4294967296 = r := ⟨_, rfl⟩
 obtain ⟨c5, hc5⟩ : ∃ c, s4 / 4294967296 = c := ⟨_, rfl⟩
 obtain ⟨N5, hN5⟩ : ∃ N, N4 / 4294967296 = N := ⟨_, rfl⟩
 have bq4 : 0 <= q4 /\ q4 < 4294967296 := by omega
 have bN4 : 0 <= N4 /\ N4 < 18446744073709551616 := by omega
 have bc4 : 0 <= c4 /\ c4 <= 1 := by omega
 have bs4 : 0 <= s4 /\ s4 <= 8589934591 := by omega
 have br4 : 0 <= r4 /\ r4 < 4294967296 := by omega
 have T4 : r4 * 340282366920938463463374607431768211456 + (c5 + N5) * 1461501637330902918203684832716283019655932542976 = (d4 + c4 + N4) * 340282366920938463463374607431768211456 := by omega
 obtain ⟨q5, hq5⟩ : ∃ q, N5 % 4294967296 = q := ⟨_, rfl⟩
 obtain ⟨u5, hu5⟩ : ∃ u, d5 + q5 = u := ⟨_, rfl⟩
 obtain ⟨s5, hs5⟩ : ∃ s, u5 + c5 = s := ⟨_, rfl⟩
 obtain ⟨r5, hr5⟩ : ∃ r, s5 % 4294967296 = r := ⟨_, rfl⟩
 obtain ⟨c6, hc6⟩ : ∃ c, s5 / 4294967296 = c := ⟨_, rfl⟩
 obtain ⟨N6, hN6⟩ : ∃ N, N5 / 4294967296 = N := ⟨_, rfl⟩
 have bq5 : 0 <= q5 /\ q5 < 4294967296 := by omega
 have bN5 : 0 <= N5 /\ N5 < 18446744073709551616 := by omega
 have bc5 : 0 <= c5 /\ c5 <= 1 := by omega
 have bs5 : 0 <= s5 /\ s5 <= 8589934591 := by omega
 have br5 : 0 <= r5 /\ r5 < 4294967296 := by omega
 have T5 : r5 * 1461501637330902918203684832716283019655932542976 + (c6 + N6) * 6277101735386680763835789423207666416102355444464034512896 = (d5 + c5 + N5) * 1461501637330902918203684832716283019655932542976 := by omega
 have HT : Hid (dval r0 r1 r2 r3 r4 r5 + (c6 + N6) * 6277101735386680763835789423207666416102355444464034512896 = dval d0 d1 d2 d3 d4 d5 + n * 1) := Lib.hid (by unfold dval; omega)
 have bc6 : 0 <= c6 := by omega
 have bN6 : 0 <= N6 := by omega
 have HB : Hid ((0 <= r0 /\ r0 < 4294967296) /\ (0 <= r1 /\ r1 < 4294967296) /\ (0 <= r2 /\ r2 < 4294967296) /\ (0 <= r3 /\ r3 < 4294967296) /\ (0 <= r4 /\ r4 < 4294967296) /\ (0 <= r5 /\ r5 < 4294967296)) := Lib.hid ⟨br0, br1, br2, br3, br4, br5⟩
 have HE : Hid (dval r0 r1 r2 r3 r4 r5 = dval d0 d1 d2 d3 d4 d5 + n * 1) := Lib.hid (by
  have h := HT.out
  have hp : 0 <= dval r0 r1 r2 r3 r4 r5 := by unfold dval; omega
  generalize dval r0 r1 r2 r3 r4 r5 = x at *
  generalize dval d0 d1 d2 d3 d4 d5 = y at *
  clear T0 T1 T2 T3 T4 T5
  omega)
 clear T0 T1 T2 T3 T4 T5 HT hv
 subst hN0 hc0
 obtain ⟨xq0, yq0⟩ := bq0
 obtain ⟨xN0, yN0⟩ := bN0
 obtain ⟨xs0, ys0⟩ := bs0
 have wu0 : IntKind.u64.wrap (d0 + q0) = u0 := by rw [hu0, u64w]; omega
 have ws0 : IntKind.u64.wrap (u0 + 0) = s0 := by rw [hs0, u64w]; omega
 obtain ⟨xq1, yq1⟩ := bq1
 obtain ⟨xN1, yN1⟩ := bN1
 obtain ⟨xs1, ys1⟩ := bs1
 have wu1 : IntKind.u64.wrap (d1 + q1) = u1 := by rw [hu1, u64w]; omega
 have ws1 : IntKind.u64.wrap (u1 + c1) = s1 := by rw [hs1, u64w]; omega
 obtain ⟨xq2, yq2⟩ := bq2
 obtain ⟨xN2, yN2⟩ := bN2
 obtain ⟨xs2, ys2⟩ := bs2
 have wu2 : IntKind.u64.wrap (d2 + q2) = u2 := by rw [hu2, u64w]; omega
 have ws2 : IntKind.u64.wrap (u2 + c2) = s2 := by rw [hs2, u64w]; omega
 obtain ⟨xq3, yq3⟩ := bq3
 obtain ⟨xN3, yN3⟩ := bN3
 obtain ⟨xs3, ys3⟩ := bs3
 have wu3 : IntKind.u64.wrap (d3 + q3) = u3 := by rw [hu3, u64w]; omega
 have ws3 : IntKind.u64.wrap (u3 + c3) = s3 := by rw [hs3, u64w]; omega
 obtain ⟨xq4, yq4⟩ := bq4
 obtain ⟨xN4, yN4⟩ := bN4
 obtain ⟨xs4, ys4⟩ := bs4
 have wu4 : IntKind.u64.wrap (d4 + q4) = u4 := by rw [hu4, u64w]; omega
 have ws4 : IntKind.u64.wrap (u4 + c4) = s4 := by rw [hs4, u64w]; omega
 obtain ⟨xq5, yq5⟩ := bq5
 obtain ⟨xN5, yN5⟩ := bN5
 obtain ⟨xs5, ys5⟩ := bs5
 have wu5 : IntKind.u64.wrap (d5 + q5) = u5 := by rw [hu5, u64w]; omega
 have ws5 : IntKind.u64.wrap (u5 + c5) = s5 := by rw [hs5, u64w]; omega
 go_enter Tryd.func118, Tryd.ntmps118
 go_wp2
 refine wp_loop_rounds 7 ?_
 rw [rounds_succ]
 go_wp2
 rw [rounds_succ]
 go_wp2
 rw [rounds_succ]
 go_wp2
 rw [rounds_succ]
 go_wp2
 rw [rounds_succ]
 go_wp2
 rw [rounds_succ]
 go_wp2
 rw [rounds_succ]
 go_wp2
 exact bodyPost_ret (v := .agg #[.int .u64 r0, .int .u64 r1, .int .u64 r2, .int .u64 r3, .int .u64 r4, .int .u64 r5]) (by simp [results, Tryd.results118, go_sem]) rfl ⟨r0, r1, r2, r3, r4, r5, rfl, HB.out, HE.out, ((Below.refl _ _).alloc (Nat.le_refl _) _).alloc (by simp) _⟩
set_option maxRecDepth 100000 in
set_option maxHeartbeats 16000000 in
theorem digit1 (d0 d1 d2 d3 d4 d5 n : Int) (w : World) (hd : (0 <= d0 /\ d0 < 4294967296) /\ (0 <= d1 /\ d1 < 4294967296) /\ (0 <= d2 /\ d2 < 4294967296) /\ (0 <= d3 /\ d3 < 4294967296) /\ (0 <= d4 /\ d4 < 4294967296) /\ (0 <= d5 /\ d5 < 4294967296)) (hn : (0 <= n /\ n < 18446744073709551616)) (hv : dval d0 d1 d2 d3 d4 d5 + n * 4294967296 < 6277101735386680763835789423207666416102355444464034512896) :
  Calls Tryd.prog 118 #[.agg #[.int .u64 d0, .int .u64 d1, .int .u64 d2, .int .u64 d3, .int .u64 d4, .int .u64 d5], .int .i64 1, .int .u64 n] w (DW (dval d0 d1 d2 d3 d4 d5 + n * 4294967296) w) := by
 obtain ⟨⟨l0, h0⟩, ⟨l1, h1⟩, ⟨l2, h2⟩, ⟨l3, h3⟩, ⟨l4, h4⟩, ⟨l5, h5⟩⟩ := hd
 obtain ⟨n0, n1⟩ := hn
 obtain ⟨N1, hN1⟩ : ∃ N, N = n := ⟨_, rfl⟩
 obtain ⟨c1, hc1⟩ : ∃ c : Int, c = 0 := ⟨_, rfl⟩
 obtain ⟨q1, hq1⟩ : ∃ q, N1 % 4294967296 = q := ⟨_, rfl⟩
 obtain ⟨u1, hu1⟩ : ∃ u, d1 + q1 = u := ⟨_, rfl⟩
 obtain ⟨s1, hs1⟩ : ∃ s, u1 + c1 = s := ⟨_, rfl⟩
 obtain ⟨r1, hr1⟩ : ∃ r, s1 % 4294967296 = r := ⟨_, rfl⟩
 obtain ⟨c2, hc2⟩ : ∃ c, s1 / 4294967296 = c := ⟨_, rfl⟩
 obtain ⟨N2, hN2⟩ : ∃ N, N1 / 4294967296 = N := ⟨_, rfl⟩
 have bq1 : 0 <= q1 /\ q1 < 4294967296 := by omega
 have bN1 : 0 <= N1 /\ N1 < 18446744073709551616 := by omega
 have bc1 : 0 <= c1 /\ c1 <= 1 := by omega
 have bs1 : 0 <= s1 /\ s1 <= 8589934591 := by omega
 have br1 : 0 <= r1 /\ r1 < 4294967296 := by omega
 have T1 : r1 * 4294967296 + (c2 + N2) * 18446744073709551616 = (d1 + c1 + N1) * 4294967296 := by omega
 obtain ⟨q2, hq2⟩ : ∃ q, N2 % 4294967296 = q := ⟨_, rfl⟩
 obtain ⟨u2, hu2⟩ : ∃ u, d2 + q2 = u := ⟨_, rfl⟩
 obtain ⟨s2, hs2⟩ : ∃ s, u2 + c2 = s := ⟨_, rfl⟩
 obtain ⟨r2, hr2⟩ : ∃ r, s2 % 4294967296 = r := ⟨_, rfl⟩
 obtain ⟨c3, hc3⟩ : ∃ c, s2 / 4294967296 = c := ⟨_, rfl⟩
 obtain ⟨N3, hN3⟩ : ∃ N, N2 / 4294967296 = N := ⟨_, rfl⟩
 have bq2 : 0 <= q2 /\ q2 < 4294967296 := by omega
 have bN2 : 0 <= N2 /\ N2 < 18446744073709551616 := by omega
 have bc2 : 0 <= c2 /\ c2 <= 1 := by omega
 have bs2 : 0 <= s2 /\ s2 <= 8589934591 := by omega
 have br2 : 0 <= r2 /\ r2 < 4294967296 := by omega
 have T2 : r2 * 18446744073709551616 + (c3 + N3) * 79228162514264337593543950336 = (d2 + c2 + N2) * 18446744073709551616 := by omega
 obtain ⟨q3, hq3⟩ : ∃ q, N3 % 4294967296 = q := ⟨_, rfl⟩
 obtain ⟨u3, hu3⟩ : ∃ u, d3 + q3 = u := ⟨_, rfl⟩
 obtain ⟨s3, hs3⟩ : ∃ s, u3 + c3 = s := ⟨_, rfl⟩
 obtain ⟨r3, hr3⟩ : ∃ r, s3 % 4294967296 = r := ⟨_, rfl⟩
 obtain ⟨c4, hc4⟩ : ∃ c, s3 / 4294967296 = c := ⟨_, rfl⟩
 obtain ⟨N4, hN4⟩ : ∃ N, N3 / 4294967296 = N := ⟨_, rfl⟩
 have bq3 : 0 <= q3 /\ q3 < 4294967296 := by omega
 have bN3 : 0 <= N3 /\ N3 < 18446744073709551616 := by omega
 have bc3 : 0 <= c3 /\ c3 <= 1 := by omega
 have bs3 : 0 <= s3 /\ s3 <= 8589934591 := by omega
 have br3 : 0 <= r3 /\ r3 < 4294967296 := by omega
 have T3 : r3 * 79228162514264337593543950336 + (c4 + N4) * 340282366920938463463374607431768211456 = (d3 + c3 + N3) * 79228162514264337593543950336 := by omega
 obtain ⟨q4, hq4⟩ : ∃ q, N4 % 4294967296 = q := ⟨_, rfl⟩
 obtain ⟨u4, hu4⟩ : ∃ u, d4 + q4 = u := ⟨_, rfl⟩
 obtain ⟨s4, hs4⟩ : ∃ s, u4 + c4 = s := ⟨_, rfl⟩
 obtain ⟨r4, hr4⟩ : ∃ r, s4 % 4294967296 = r := ⟨_, rfl⟩
 obtain ⟨c5, hc5⟩ : ∃ c, s4 / 4294967296 = c := ⟨_, rfl⟩
 obtain ⟨N5, hN5⟩ : ∃ N, N4 / 4294967296 = N := ⟨_, rfl⟩
 have bq4 : 0 <= q4 /\ q4 < 4294967296 := by omega
 have bN4 : 0 <= N4 /\ N4 < 18446744073709551616 := by omega
 have bc4 : 0 <= c4 /\ c4 <= 1 := by omega
 have bs4 : 0 <= s4 /\ s4 <= 8589934591 := by omega
 have br4 : 0 <= r4 /\ r4 < 4294967296 := by omega
 have T4 : r4 * 340282366920938463463374607431768211456 + (c5 + N5) * 1461501637330902918203684832716283019655932542976 = (d4 + c4 + N4) * 340282366920938463463374607431768211456 := by omega
 obtain ⟨q5, hq5⟩ : ∃ q, N5 % 4294967296 = q := ⟨_, rfl⟩
 obtain ⟨u5, hu5⟩ : ∃ u, d5 + q5 = u := ⟨_, rfl⟩
 obtain ⟨s5, hs5⟩ : ∃ s, u5 + c5 = s := ⟨_, rfl⟩
 obtain ⟨r5, hr5⟩ : ∃ r, s5 % 4294967296 = r := ⟨_, rfl⟩
 obtain ⟨c6, hc6⟩ : ∃ c, s5 / 4294967296 = c := ⟨_, rfl⟩
 obtain ⟨N6, hN6⟩ : ∃ N, N5 / 4294967296 = N := ⟨_, rfl⟩
 have bq5 : 0 <= q5 /\ q5 < 4294967296 := by omega
 have bN5 : 0 <= N5 /\ N5 < 18446744073709551616 := by omega
 have bc5 : 0 <= c5 /\ c5 <= 1 := by omega
 have bs5 : 0 <= s5 /\ s5 <= 8589934591 := by omega
 have br5 : 0 <= r5 /\ r5 < 4294967296 := by omega
 have T5 : r5 * 1461501637330902918203684832716283019655932542976 + (c6 + N6) * 6277101735386680763835789423207666416102355444464034512896 = (d5 + c5 + N5) * 1461501637330902918203684832716283019655932542976 := by omega
 have HT : Hid (dval d0 r1 r2 r3 r4 r5 + (c6 + N6) * 6277101735386680763835789423207666416102355444464034512896 = dval d0 d1 d2 d3 d4 d5 + n * 4294967296) := Lib.hid (by unfold dval; omega)
 have bc6 : 0 <= c6 := by omega
 have bN6 : 0 <= N6 := by omega
 have HB : Hid ((0 <= d0 /\ d0 < 4294967296) /\ (0 <= r1 /\ r1 < 4294967296) /\ (0 <= r2 /\ r2 < 4294967296) /\ (0 <= r3 /\ r3 < 4294967296) /\ (0 <= r4 /\ r4 < 4294967296) /\ (0 <= r5 /\ r5 < 4294967296)) := Lib.hid ⟨⟨l0, h0⟩, br1, br2, br3, br4, br5⟩
 have HE : Hid (dval d0 r1 r2 r3 r4 r5 = dval d0 d1 d2 d3 d4 d5 + n * 4294967296) := Lib.hid (by
  have h := HT.out
  have hp : 0 <= dval d0 r1 r2 r3 r4 r5 := by unfold dval; omega
  generalize dval d0 r1 r2 r3 r4 r5 = x at *
  generalize dval d0 d1 d2 d3 d4 d5 = y at *
  clear T1 T2 T3 T4 T5
  omega)
 clear T1 T2 T3 T4 T5 HT hv
 subst hN1 hc1
 obtain ⟨xq1, yq1⟩ := bq1
 obtain ⟨xN1, yN1⟩ := bN1
 obtain ⟨xs1, ys1⟩ := bs1
 have wu1 : IntKind.u64.wrap (d1 + q1) = u1 := by rw [hu1, u64w]; omega
 have ws1 : IntKind.u64.wrap (u1 + 0) = s1 := by rw [hs1, u64w]; omega
 obtain ⟨xq2, yq2⟩ := bq2
 obtain ⟨xN2, yN2⟩ := bN2
 obtain ⟨xs2, ys2⟩ := bs2
 have wu2 : IntKind.u64.wrap (d2 + q2) = u2 := by rw [hu2, u64w]; omega
 have ws2 : IntKind.u64.wrap (u2 + c2) = s2 := by rw [hs2, u64w]; omega
 obtain ⟨xq3, yq3⟩ := bq3
 obtain ⟨xN3, yN3⟩ := bN3
 obtain ⟨xs3, ys3⟩ := bs3
 have wu3 : IntKind.u64.wrap (d3 + q3) = u3 := by rw [hu3, u64w]; omega
 have ws3 : IntKind.u64.wrap (u3 + c3) = s3 := by rw [hs3, u64w]; omega
 obtain ⟨xq4, yq4⟩ := bq4
 obtain ⟨xN4, yN4⟩ := bN4
 obtain ⟨xs4, ys4⟩ := bs4
 have wu4 : IntKind.u64.wrap (d4 + q4) = u4 := by rw [hu4, u64w]; omega
 have ws4 : IntKind.u64.wrap (u4 + c4) = s4 := by rw [hs4, u64w]; omega
 obtain ⟨xq5, yq5⟩ := bq5
 obtain ⟨xN5, yN5⟩ := bN5
 obtain ⟨xs5, ys5⟩ := bs5
 have wu5 : IntKind.u64.wrap (d5 + q5) = u5 := by rw [hu5, u64w]; omega
 have ws5 : IntKind.u64.wrap (u5 + c5) = s5 := by rw [hs5, u64w]; omega
 go_enter Tryd.func118, Tryd.ntmps118
 go_wp2
 refine wp_loop_rounds 6 ?_
 rw [rounds_succ]
 go_wp2
 rw [rounds_succ]
 go_wp2
 rw [rounds_succ]
 go_wp2
 rw [rounds_succ]
 go_wp2
 rw [rounds_succ]
 go_wp2
 rw [rounds_succ]
 go_wp2
 exact bodyPost_ret (v := .agg #[.int .u64 d0, .int .u64 r1, .int .u64 r2, .int .u64 r3, .int .u64 r4, .int .u64 r5]) (by simp [results, Tryd.results118, go_sem]) rfl ⟨d0, r1, r2, r3, r4, r5, rfl, HB.out, HE.out, ((Below.refl _ _).alloc (Nat.le_refl _) _).alloc (by simp) _⟩
set_option maxRecDepth 100000 in
set_option maxHeartbeats 16000000 in
theorem digit2 (d0 d1 d2 d3 d4 d5 n : Int) (w : World) (hd : (0 <= d0 /\ d0 < 4294967296) /\ (0 <= d1 /\ d1 < 4294967296) /\ (0 <= d2 /\ d2 < 4294967296) /\ (0 <= d3 /\ d3 < 4294967296) /\ (0 <= d4 /\ d4 < 4294967296) /\ (0 <= d5 /\ d5 < 4294967296)) (hn : (0 <= n /\ n < 18446744073709551616)) (hv : dval d0 d1 d2 d3 d4 d5 + n * 18446744073709551616 < 6277101735386680763835789423207666416102355444464034512896) :
  Calls Tryd.prog 118 #[.agg #[.int .u64 d0, .int .u64 d1, .int .u64 d2, .int .u64 d3, .int .u64 d4, .int .u64 d5], .int .i64 2, .int .u64 n] w (DW (dval d0 d1 d2 d3 d4 d5 + n * 18446744073709551616) w) := by
 obtain ⟨⟨l0, h0⟩, ⟨l1, h1⟩, ⟨l2, h2⟩, ⟨l3, h3⟩, ⟨l4, h4⟩, ⟨l5, h5⟩⟩ := hd
 obtain ⟨n0, n1⟩ := hn
 obtain ⟨N2, hN2⟩ : ∃ N, N = n := ⟨_, rfl⟩
 obtain ⟨c2, hc2⟩ : ∃ c : Int, c = 0 := ⟨_, rfl⟩
 obtain ⟨q2, hq2⟩ : ∃ q, N2 % 4294967296 = q := ⟨_, rfl⟩
 obtain ⟨u2, hu2⟩ : ∃ u, d2 + q2 = u := ⟨_, rfl⟩
 obtain ⟨s2, hs2⟩ : ∃ s, u2 + c2 = s := ⟨_, rfl⟩
 obtain ⟨r2, hr2⟩ : ∃ r, s2 % 4294967296 = r := ⟨_, rfl⟩
 obtain ⟨c3, hc3⟩ : ∃ c, s2 / 4294967296 = c := ⟨_, rfl⟩
 obtain ⟨N3, hN3⟩ : ∃ N, N2 / 4294967296 = N := ⟨_, rfl⟩
 have bq2 : 0 <= q2 /\ q2 < 4294967296 := by omega
 have bN2 : 0 <= N2 /\ N2 < 18446744073709551616 := by omega
 have bc2 : 0 <= c2 /\ c2 <= 1 := by omega
 have bs2 : 0 <= s2 /\ s2 <= 8589934591 := by omega
 have br2 : 0 <= r2 /\ r2 < 4294967296 := by omega
 have T2 : r2 * 18446744073709551616 + (c3 + N3) * 79228162514264337593543950336 = (d2 + c2 + N2) * 18446744073709551616 := by omega
 obtain ⟨q3, hq3⟩ : ∃ q, N3 % 4294967296 = q := ⟨_, rfl⟩
 obtain ⟨u3, hu3⟩ : ∃ u, d3 + q3 = u := ⟨_, rfl⟩
 obtain ⟨s3, hs3⟩ : ∃ s, u3 + c3 = s := ⟨_, rfl⟩
 obtain ⟨r3, hr3⟩ : ∃ r, s3 % 4294967296 = r := ⟨_, rfl⟩
 obtain ⟨c4, hc4⟩ : ∃ c, s3 / 4294967296 = c := ⟨_, rfl⟩
 obtain ⟨N4, hN4⟩ : ∃ N, N3 / 4294967296 = N := ⟨_, rfl⟩
 have bq3 : 0 <= q3 /\ q3 < 4294967296 := by omega
 have bN3 : 0 <= N3 /\ N3 < 18446744073709551616 := by omega
 have bc3 : 0 <= c3 /\ c3 <= 1 := by omega
 have bs3 : 0 <= s3 /\ s3 <= 8589934591 := by omega
 have br3 : 0 <= r3 /\ r3 < 4294967296 := by omega
 have T3 : r3 * 79228162514264337593543950336 + (c4 + N4) * 340282366920938463463374607431768211456 = (d3 + c3 + N3) * 79228162514264337593543950336 := by omega
 obtain ⟨q4, hq4⟩ : ∃ q, N4 % 4294967296 = q := ⟨_, rfl⟩
 obtain ⟨u4, hu4⟩ : ∃ u, d4 + q4 = u := ⟨_, rfl⟩
 obtain ⟨s4, hs4⟩ : ∃ s, u4 + c4 = s := ⟨_, rfl⟩
 obtain ⟨r4, hr4⟩ : ∃ r, s4 % 4294967296 = r := ⟨_, rfl⟩
 obtain ⟨c5, hc5⟩ : ∃ c, s4 / 4294967296 = c := ⟨_, rfl⟩
 obtain ⟨N5, hN5⟩ : ∃ N, N4 / 4294967296 = N := ⟨_, rfl⟩
 have bq4 : 0 <= q4 /\ q4 < 4294967296 := by omega
 have bN4 : 0 <= N4 /\ N4 < 18446744073709551616 := by omega
 have bc4 : 0 <= c4 /\ c4 <= 1 := by omega
 have bs4 : 0 <= s4 /\ s4 <= 8589934591 := by omega
 have br4 : 0 <= r4 /\ r4 < 4294967296 := by omega
 have T4 : r4 * 340282366920938463463374607431768211456 + (c5 + N5) * 1461501637330902918203684832716283019655932542976 = (d4 + c4 + N4) * 340282366920938463463374607431768211456 := by omega
 obtain ⟨q5, hq5⟩ : ∃ q, N5 % 4294967296 = q := ⟨_, rfl⟩
 obtain ⟨u5, hu5⟩ : ∃ u, d5 + q5 = u := ⟨_, rfl⟩
 obtain ⟨s5, hs5⟩ : ∃ s, u5 + c5 = s := ⟨_, rfl⟩
 obtain ⟨r5, hr5⟩ : ∃ r, s5 % 4294967296 = r := ⟨_, rfl⟩
 obtain ⟨c6, hc6⟩ : ∃ c, s5 / 4294967296 = c := ⟨_, rfl⟩
 obtain ⟨N6, hN6⟩ : ∃ N, N5 / 4294967296 = N := ⟨_, rfl⟩
 have bq5 : 0 <= q5 /\ q5 < 4294967296 := by omega
 have bN5 : 0 <= N5 /\ N5 < 18446744073709551616 := by omega
 have bc5 : 0 <= c5 /\ c5 <= 1 := by omega
 have bs5 : 0 <= s5 /\ s5 <= 8589934591 := by omega
 have br5 : 0 <= r5 /\ r5 < 4294967296 := by omega
 have T5 : r5 * 1461501637330902918203684832716283019655932542976 + (c6 + N6) * 6277101735386680763835789423207666416102355444464034512896 = (d5 + c5 + N5) * 1461501637330902918203684832716283019655932542976 := by omega
 have HT : Hid (dval d0 d1 r2 r3 r4 r5 + (c6 + N6) * 6277101735386680763835789423207666416102355444464034512896 = dval d0 d1 d2 d3 d4 d5 + n * 18446744073709551616) := Lib.hid (by unfold dval; omega)
 have bc6 : 0 <= c6 := by omega
 have bN6 : 0 <= N6 := by omega
 have HB : Hid ((0 <= d0 /\ d0 < 4294967296) /\ (0 <= d1 /\ d1 < 4294967296) /\ (0 <= r2 /\ r2 < 4294967296) /\ (0 <= r3 /\ r3 < 4294967296) /\ (0 <= r4 /\ r4 < 4294967296) /\ (0 <= r5 /\ r5 < 4294967296)) := Lib.hid ⟨⟨l0, h0⟩, ⟨l1, h1⟩, br2, br3, br4, br5⟩
 have HE : Hid (dval d0 d1 r2 r3 r4 r5 = dval d0 d1 d2 d3 d4 d5 + n * 18446744073709551616) := Lib.hid (by
  have h := HT.out
  have hp : 0 <= dval d0 d1 r2 r3 r4 r5 := by unfold dval; omega
  generalize dval d0 d1 r2 r3 r4 r5 = x at *
  generalize dval d0 d1 d2 d3 d4 d5 = y at *
  clear T2 T3 T4 T5
  omega)
 clear T2 T3 T4 T5 HT hv
 subst hN2 hc2
 obtain ⟨xq2, yq2⟩ := bq2
 obtain ⟨xN2, yN2⟩ := bN2
 obtain ⟨xs2, ys2⟩ := bs2
 have wu2 : IntKind.u64.wrap (d2 + q2) = u2 := by rw [hu2, u64w]; omega
 have ws2 : IntKind.u64.wrap (u2 + 0) = s2 := by rw [hs2, u64w]; omega
 obtain ⟨xq3, yq3⟩ := bq3
 obtain ⟨xN3, yN3⟩ := bN3
 obtain ⟨xs3, ys3⟩ := bs3
 have wu3 : IntKind.u64.wrap (d3 + q3) = u3 := by rw [hu3, u64w]; omega
 have ws3 : IntKind.u64.wrap (u3 + c3) = s3 := by rw [hs3, u64w]; omega
 obtain ⟨xq4, yq4⟩ := bq4
 obtain ⟨xN4, yN4⟩ := bN4
 obtain ⟨xs4, ys4⟩ := bs4
 have wu4 : IntKind.u64.wrap (d4 + q4) = u4 := by rw [hu4, u64w]; omega
 have ws4 : IntKind.u64.wrap (u4 + c4) = s4 := by rw [hs4, u64w]; omega
 obtain ⟨xq5, yq5⟩ := bq5
 obtain ⟨xN5, yN5⟩ := bN5
 obtain ⟨xs5, ys5⟩ := bs5
 have wu5 : IntKind.u64.wrap (d5 + q5) = u5 := by rw [hu5, u64w]; omega
 have ws5 : IntKind.u64.wrap (u5 + c5) = s5 := by rw [hs5, u64w]; omega
 go_enter Tryd.func118, Tryd.ntmps118
 go_wp2
 refine wp_loop_rounds 5 ?_
 rw [rounds_succ]
 go_wp2
 rw [rounds_succ]
 go_wp2
 rw [rounds_succ]
 go_wp2
 rw [rounds_succ]
 go_wp2
 rw [rounds_succ]
 go_wp2
 exact bodyPost_ret (v := .agg #[.int .u64 d0, .int .u64 d1, .int .u64 r2, .int .u64 r3, .int .u64 r4, .int .u64 r5]) (by simp [results, Tryd.results118, go_sem]) rfl ⟨d0, d1, r2, r3, r4, r5, rfl, HB.out, HE.out, ((Below.refl _ _).alloc (Nat.le_refl _) _).alloc (by simp) _⟩
end Go.Proofs.YtbicmlkjonaccaaDoor.Ln


namespace Go.Proofs.YtbicmlkjonaccaaDoor.Ln
open Go.ChangeShapes Go.WideShapes Go.ChangeAt Go.RowKit
set_option linter.unusedVariables false
set_option linter.unusedSimpArgs false
theorem mulB {x y : Int} (hx : (0 <= x /\ x < 4294967296)) (hy : (0 <= y /\ y < 4294967296)) : 0 <= x * y /\ x * y < 18446744073709551616 := by
 have h1 : x * y <= 4294967295 * y := Int.mul_le_mul_of_nonneg_right (by omega) hy.1
 have h0 : 0 <= x * y := Int.mul_nonneg hx.1 hy.1
 generalize x * y = P at *
 omega
theorem put6 {g : Nat} {d0 d1 d2 d3 d4 d5 e0 e1 e2 e3 e4 e5 : Int} {u : World} (h : Cl [(g, 0, .int .u64 d0), (g, 1, .int .u64 d1), (g, 2, .int .u64 d2), (g, 3, .int .u64 d3), (g, 4, .int .u64 d4), (g, 5, .int .u64 d5)] u) : Cl [(g, 0, .int .u64 e0), (g, 1, .int .u64 e1), (g, 2, .int .u64 e2), (g, 3, .int .u64 e3), (g, 4, .int .u64 e4), (g, 5, .int .u64 e5)] ((((((u.setCell ⟨g, 0, none⟩ (.int .u64 e0)).setCell ⟨g, 1, none⟩ (.int .u64 e1)).setCell ⟨g, 2, none⟩ (.int .u64 e2)).setCell ⟨g, 3, none⟩ (.int .u64 e3)).setCell ⟨g, 4, none⟩ (.int .u64 e4)).setCell ⟨g, 5, none⟩ (.int .u64 e5)) := by
 have x0 := h.head
 have zx0 := h.headF
 have x1 := h.tail.head
 have zx1 := h.tail.headF
 have x2 := h.tail.tail.head
 have zx2 := h.tail.tail.headF
 have x3 := h.tail.tail.tail.head
 have zx3 := h.tail.tail.tail.headF
 have x4 := h.tail.tail.tail.tail.head
 have zx4 := h.tail.tail.tail.tail.headF
 have x5 := h.tail.tail.tail.tail.tail.head
 have zx5 := h.tail.tail.tail.tail.tail.headF
 exact (Cl.cons (by go_cell) (by first | go_cell | simp [World.frozen?_setCell, zx0]) (Cl.cons (by go_cell) (by first | go_cell | simp [World.frozen?_setCell, zx1]) (Cl.cons (by go_cell) (by first | go_cell | simp [World.frozen?_setCell, zx2]) (Cl.cons (by go_cell) (by first | go_cell | simp [World.frozen?_setCell, zx3]) (Cl.cons (by go_cell) (by first | go_cell | simp [World.frozen?_setCell, zx4]) (Cl.cons (by go_cell) (by first | go_cell | simp [World.frozen?_setCell, zx5]) (Cl.nil _)))))))
theorem put6_far {g : Nat} {e0 e1 e2 e3 e4 e5 : Int} {u : World} {L : List (Nat × Nat × Value)} (h : Cl L u) (hL : ∀ y ∈ L, y.1 ≠ g) : Cl L ((((((u.setCell ⟨g, 0, none⟩ (.int .u64 e0)).setCell ⟨g, 1, none⟩ (.int .u64 e1)).setCell ⟨g, 2, none⟩ (.int .u64 e2)).setCell ⟨g, 3, none⟩ (.int .u64 e3)).setCell ⟨g, 4, none⟩ (.int .u64 e4)).setCell ⟨g, 5, none⟩ (.int .u64 e5)) :=
 Cl.far (Cl.far (Cl.far (Cl.far (Cl.far (Cl.far h hL) hL) hL) hL) hL) hL
theorem put6_below {g B : Nat} {e0 e1 e2 e3 e4 e5 : Int} {w u : World} (h : Below B w u) (hg : B <= g) : Below B w ((((((u.setCell ⟨g, 0, none⟩ (.int .u64 e0)).setCell ⟨g, 1, none⟩ (.int .u64 e1)).setCell ⟨g, 2, none⟩ (.int .u64 e2)).setCell ⟨g, 3, none⟩ (.int .u64 e3)).setCell ⟨g, 4, none⟩ (.int .u64 e4)).setCell ⟨g, 5, none⟩ (.int .u64 e5)) :=
 (((((h.setCell (p := ⟨g, 0, none⟩) hg _).setCell (p := ⟨g, 1, none⟩) hg _).setCell (p := ⟨g, 2, none⟩) hg _).setCell (p := ⟨g, 3, none⟩) hg _).setCell (p := ⟨g, 4, none⟩) hg _).setCell (p := ⟨g, 5, none⟩) hg _

/-- A number's magnitude. -/
def mag (n : Int) : Int := if n < 0 then -n else n
theorem mag_bd {n : Int} (h1 : -9223372036854775808 <= n) (h2 : n <= 9223372036854775807) : 0 <= mag n /\ mag n <= 9223372036854775808 := by unfold mag; split <;> omega
theorem size1 (n : Int) (w : World) (h1 : -9223372036854775808 <= n) (h2 : n <= 9223372036854775807) : Calls Tryd.prog 50 #[.int .i64 n] w fun e w' => e = .returned (.int .u64 (mag n)) /\ w = w' := by
 unfold mag
 by_cases h : n < 0
 ·rw [if_pos h]
  have e1 : IntKind.u64.wrap (-(n + 1)) = -n - 1 := by rw [u64w]; omega
  have e2 : IntKind.u64.wrap (-n - 1 + 1) = -n := by rw [u64w]; omega
  go_enter Tryd.func50, Tryd.ntmps50
  go_wp2
  go_ret
  exact ⟨by first | rfl | (rw [<- e2]; rfl) | (congr 2; omega), rfl⟩
 ·rw [if_neg h]
  have e1 : IntKind.u64.wrap n = n := by rw [u64w]; omega
  go_enter Tryd.func50, Tryd.ntmps50
  go_wp2
  go_ret
  exact ⟨rfl, rfl⟩
/-- The value of the first binding of a name. -/
def FDW (es : List Mo) (s : ByteArray) (w : World) (e : Ending) (w' : World) : Prop :=
 Below w.heap.size w w' /\ ((s ∉ es.map (·.1) /\ e = .returned (.tuple #[.int .i64 0, .bool false])) \/ (s ∈ es.map (·.1) /\ e = .returned (.tuple #[.int .i64 (co es s), .bool true])))
set_option maxRecDepth 100000 in
set_option maxHeartbeats 8000000 in
theorem find1 (q : Option Addr) (es : List Mo) (d : Nat) (s : ByteArray) (w : World) (hn : es.length <= maxLen) (RA : Hid (SlM w q es)) :
  Calls Tryd.prog 92 #[.slice q es.length d, .string s] w (FDW es s w) := by
 unfold maxLen at hn
 go_enter Tryd.func92, Tryd.ntmps92
 go_wp2
 go_loopw [6] (fun i wr => ∃ j : Nat, i = .int .i64 (j : Int) /\ j <= es.length /\ Below w.heap.size w wr /\ Hid (∀ i, i < j -> (es.getD i mo0).1 ≠ s)) (fun i _ => es.length - (intOf i).toNat)
 case atStart => exact ⟨0, rfl, by omega, Below.refl _ _, Lib.hid fun i hi => absurd hi (by omega)⟩
 case round =>
  obtain ⟨j, rfl, hj, hB, HN⟩ := hrel
  have j0 : (0 : Int) <= j := by omega
  by_cases hlt : j < es.length
  ·obtain ⟨b, o, rfl, c0, c1⟩ := SlM.keep hB RA.out j hlt
   have HC := Lib.hid fun he => co_first (s := s) hlt HN.out he
   have HMM := Lib.hid (getD_mem hlt)
   obtain ⟨⟨t, a⟩, hx⟩ : ∃ x, es.getD j mo0 = x := ⟨_, rfl⟩
   have HX := Lib.hid hx
   rw [hx] at c0 c1
   simp only at c0 c1
   clear hx
   have j1 : (j : Int) < es.length := by omega
   by_cases hts : t = s
   ·have hv : (t.toList == s.toList) = true := by rw [same_iff]; exact decide_eq_true hts
    have HE := Lib.hid (show a = co es s from by have := HC.out (by rw [HX.out]; exact hts); rw [HX.out] at this; exact this)
    have HI := Lib.hid (show s ∈ es.map (·.1) from by have := List.mem_map_of_mem (f := (·.1)) HMM.out; rw [HX.out] at this; rw [<- hts]; exact this)
    clear hts
    go_wp2
    go_ret2
    exact ⟨hB, .inr ⟨HI.out, by rw [<- HE.out]; rfl⟩⟩
   ·have hv : (t.toList == s.toList) = false := by rw [same_iff]; exact decide_eq_false hts
    have HN2 : Hid (∀ i, i < j + 1 -> (es.getD i mo0).1 ≠ s) := Lib.hid fun i hi => by
     by_cases hij : i = j
     ·subst hij; rw [HX.out]; exact hts
     ·exact HN.out i (by omega)
    clear hts
    go_wp2
    go_roundw
    case rel => exact ⟨j + 1, by go_num, by omega, hB, HN2⟩
    case measure => simp [intOf]; omega
  ·have j1 : ¬ (j : Int) < es.length := by omega
   have HE := Lib.hid (show s ∉ es.map (·.1) from not_mem_of (by omega) HN.out)
   go_wp2
   go_ret2
   exact ⟨hB, .inl ⟨HE.out, rfl⟩⟩
set_option maxRecDepth 100000 in
set_option maxHeartbeats 16000000 in
theorem plusW (d0 d1 d2 d3 d4 d5 a b : Int) (w : World) (hd : ((0 <= d0 /\ d0 < 4294967296) /\ (0 <= d1 /\ d1 < 4294967296) /\ (0 <= d2 /\ d2 < 4294967296) /\ (0 <= d3 /\ d3 < 4294967296) /\ (0 <= d4 /\ d4 < 4294967296) /\ (0 <= d5 /\ d5 < 4294967296))) (ha : (0 <= a /\ a < 18446744073709551616)) (hb : (0 <= b /\ b < 18446744073709551616)) (hv : dval d0 d1 d2 d3 d4 d5 + a * b < 6277101735386680763835789423207666416102355444464034512896) :
  Calls Tryd.prog 91 #[.agg #[.int .u64 d0, .int .u64 d1, .int .u64 d2, .int .u64 d3, .int .u64 d4, .int .u64 d5], .int .u64 a, .int .u64 b] w (DW (dval d0 d1 d2 d3 d4 d5 + a * b) w) := by
 obtain ⟨a0, ha0⟩ : ∃ x, a % 4294967296 = x := ⟨_, rfl⟩
 obtain ⟨a1, ha1⟩ : ∃ x, a / 4294967296 = x := ⟨_, rfl⟩
 obtain ⟨b0, hb0⟩ : ∃ x, b % 4294967296 = x := ⟨_, rfl⟩
 obtain ⟨b1, hb1⟩ : ∃ x, b / 4294967296 = x := ⟨_, rfl⟩
 have ka0 : (0 <= a0 /\ a0 < 4294967296) := by omega
 have ka1 : (0 <= a1 /\ a1 < 4294967296) := by omega
 have kb0 : (0 <= b0 /\ b0 < 4294967296) := by omega
 have kb1 : (0 <= b1 /\ b1 < 4294967296) := by omega
 have p00 := mulB ka0 kb0
 have p01 := mulB ka0 kb1
 have p10 := mulB ka1 kb0
 have p11 := mulB ka1 kb1
 have hab : a * b = a0 * b0 + (a0 * b1 + a1 * b0) * 4294967296 + a1 * b1 * 18446744073709551616 := by
  have e1 : a = a0 + a1 * 4294967296 := by omega
  have e2 : b = b0 + b1 * 4294967296 := by omega
  rw [e1, e2]
  clear hv e1 e2 ha0 ha1 hb0 hb1 p00 p01 p10 p11
  grind
 rw [hab] at hv ⊢
 obtain ⟨x00, y00⟩ : ∃ x, a0 * b0 = x := ⟨_, rfl⟩
 obtain ⟨x01, y01⟩ : ∃ x, a0 * b1 = x := ⟨_, rfl⟩
 obtain ⟨x10, y10⟩ : ∃ x, a1 * b0 = x := ⟨_, rfl⟩
 obtain ⟨x11, y11⟩ : ∃ x, a1 * b1 = x := ⟨_, rfl⟩
 rw [y00] at p00
 rw [y01] at p01
 rw [y10] at p10
 rw [y11] at p11
 rw [y00, y01, y10, y11] at hv ⊢
 clear hab ha hb
 obtain ⟨V, hV⟩ : ∃ V, dval d0 d1 d2 d3 d4 d5 = V := ⟨_, rfl⟩
 rw [hV] at hv ⊢
 have HV := Lib.hid hV
 have HF : ∀ V4, V + x00 * 1 + x01 * 4294967296 + x10 * 4294967296 + x11 * 18446744073709551616 = V4 -> V4 = V + (x00 + (x01 + x10) * 4294967296 + x11 * 18446744073709551616) := fun V4 h => by omega
 have HF := Lib.hid HF
 have hV0 : 0 <= V := by rw [<- hV]; unfold dval; omega
 have u00 : IntKind.u64.wrap (a0 * b0) = x00 := by rw [y00, u64w]; omega
 have u01 : IntKind.u64.wrap (a0 * b1) = x01 := by rw [y01, u64w]; omega
 have u10 : IntKind.u64.wrap (a1 * b0) = x10 := by rw [y10, u64w]; omega
 have u11 : IntKind.u64.wrap (a1 * b1) = x11 := by rw [y11, u64w]; omega
 clear hV
 have B0 : Below w.heap.size w ((w.alloc (Obj.cells #[Value.int .u64 d0, Value.int .u64 d1, Value.int .u64 d2, Value.int .u64 d3, Value.int .u64 d4, Value.int .u64 d5] 114)).alloc (Obj.cells #[Value.int .u64 0, Value.int .u64 0, Value.int .u64 0, Value.int .u64 0, Value.int .u64 0, Value.int .u64 0] 114)) := two_below _ _
 have F0 : Cl ([(w.heap.size, 0, .int .u64 d0), (w.heap.size, 1, .int .u64 d1), (w.heap.size, 2, .int .u64 d2), (w.heap.size, 3, .int .u64 d3), (w.heap.size, 4, .int .u64 d4), (w.heap.size, 5, .int .u64 d5)] ++ [(w.heap.size + 1, 0, .int .u64 0), (w.heap.size + 1, 1, .int .u64 0), (w.heap.size + 1, 2, .int .u64 0), (w.heap.size + 1, 3, .int .u64 0), (w.heap.size + 1, 4, .int .u64 0), (w.heap.size + 1, 5, .int .u64 0)]) ((w.alloc (Obj.cells #[Value.int .u64 d0, Value.int .u64 d1, Value.int .u64 d2, Value.int .u64 d3, Value.int .u64 d4, Value.int .u64 d5] 114)).alloc (Obj.cells #[Value.int .u64 0, Value.int .u64 0, Value.int .u64 0, Value.int .u64 0, Value.int .u64 0, Value.int .u64 0] 114)) := by
  simp only [List.cons_append, List.nil_append]
  exact (Cl.cons (by go_cell) (by first | go_cell | simp) (Cl.cons (by go_cell) (by first | go_cell | simp) (Cl.cons (by go_cell) (by first | go_cell | simp) (Cl.cons (by go_cell) (by first | go_cell | simp) (Cl.cons (by go_cell) (by first | go_cell | simp) (Cl.cons (by go_cell) (by first | go_cell | simp) (Cl.cons (by go_cell) (by first | go_cell | simp) (Cl.cons (by go_cell) (by first | go_cell | simp) (Cl.cons (by go_cell) (by first | go_cell | simp) (Cl.cons (by go_cell) (by first | go_cell | simp) (Cl.cons (by go_cell) (by first | go_cell | simp) (Cl.cons (by go_cell) (by first | go_cell | simp) (Cl.nil _)))))))))))))
 go_enter Tryd.func91, Tryd.ntmps91
 go_wp2_with fail
 generalize (w.alloc (Obj.cells #[Value.int .u64 d0, Value.int .u64 d1, Value.int .u64 d2, Value.int .u64 d3, Value.int .u64 d4, Value.int .u64 d5] 114)).alloc (Obj.cells #[Value.int .u64 0, Value.int .u64 0, Value.int .u64 0, Value.int .u64 0, Value.int .u64 0, Value.int .u64 0] 114) = u0 at *
 have hgs : w.heap.size <= w.heap.size := Nat.le_refl _
 have hg1 : w.heap.size <= w.heap.size + 1 := Nat.le_succ _
 have HV0 : Hid (dval d0 d1 d2 d3 d4 d5 = V) := HV
 refine (digit0 d0 d1 d2 d3 d4 d5 x00 u0 hd p00 (by rw [HV0.out]; omega)).mono ?_
 rintro e w0 ⟨f00, f01, f02, f03, f04, f05, rfl, hd1, hv1, hb⟩
 have HV1 : Hid (dval f00 f01 f02 f03 f04 f05 = V + x00 * 1) := Lib.hid (by rw [hv1, HV0.out])
 replace F0 := F0.below hb
 replace B0 := B0.trans (hb.mono B0.size)
 clear hb hv1
 have m0 := F0.head
 have zm0 := F0.headF
 have m1 := F0.tail.head
 have zm1 := F0.tail.headF
 have m2 := F0.tail.tail.head
 have zm2 := F0.tail.tail.headF
 have m3 := F0.tail.tail.tail.head
 have zm3 := F0.tail.tail.tail.headF
 have m4 := F0.tail.tail.tail.tail.head
 have zm4 := F0.tail.tail.tail.tail.headF
 have m5 := F0.tail.tail.tail.tail.tail.head
 have zm5 := F0.tail.tail.tail.tail.tail.headF
 have r0 := F0.tail.tail.tail.tail.tail.tail.head
 have r1 := F0.tail.tail.tail.tail.tail.tail.tail.head
 have r2 := F0.tail.tail.tail.tail.tail.tail.tail.tail.head
 have r3 := F0.tail.tail.tail.tail.tail.tail.tail.tail.tail.head
 have r4 := F0.tail.tail.tail.tail.tail.tail.tail.tail.tail.tail.head
 have r5 := F0.tail.tail.tail.tail.tail.tail.tail.tail.tail.tail.tail.head
 have F0' : Cl ([(w.heap.size, 0, .int .u64 f00), (w.heap.size, 1, .int .u64 f01), (w.heap.size, 2, .int .u64 f02), (w.heap.size, 3, .int .u64 f03), (w.heap.size, 4, .int .u64 f04), (w.heap.size, 5, .int .u64 f05)] ++ [(w.heap.size + 1, 0, .int .u64 0), (w.heap.size + 1, 1, .int .u64 0), (w.heap.size + 1, 2, .int .u64 0), (w.heap.size + 1, 3, .int .u64 0), (w.heap.size + 1, 4, .int .u64 0), (w.heap.size + 1, 5, .int .u64 0)]) ((((((w0.setCell ⟨w.heap.size, 0, none⟩ (.int .u64 f00)).setCell ⟨w.heap.size, 1, none⟩ (.int .u64 f01)).setCell ⟨w.heap.size, 2, none⟩ (.int .u64 f02)).setCell ⟨w.heap.size, 3, none⟩ (.int .u64 f03)).setCell ⟨w.heap.size, 4, none⟩ (.int .u64 f04)).setCell ⟨w.heap.size, 5, none⟩ (.int .u64 f05)) := (put6 (F0.sub (L' := [(w.heap.size, 0, .int .u64 d0), (w.heap.size, 1, .int .u64 d1), (w.heap.size, 2, .int .u64 d2), (w.heap.size, 3, .int .u64 d3), (w.heap.size, 4, .int .u64 d4), (w.heap.size, 5, .int .u64 d5)]) (fun x hx => List.mem_append_left _ hx))).append (put6_far (F0.sub (L' := [(w.heap.size + 1, 0, .int .u64 0), (w.heap.size + 1, 1, .int .u64 0), (w.heap.size + 1, 2, .int .u64 0), (w.heap.size + 1, 3, .int .u64 0), (w.heap.size + 1, 4, .int .u64 0), (w.heap.size + 1, 5, .int .u64 0)]) (fun x hx => List.mem_append_right _ hx)) (by simp))
 have B0' := put6_below (g := w.heap.size) (e0 := f00) (e1 := f01) (e2 := f02) (e3 := f03) (e4 := f04) (e5 := f05) B0 hgs
 go_wp2_with fail
 clear m0 m1 m2 m3 m4 m5 r0 r1 r2 r3 r4 r5 zm0 zm1 zm2 zm3 zm4 zm5 F0 B0
 generalize ((((((w0.setCell ⟨w.heap.size, 0, none⟩ (.int .u64 f00)).setCell ⟨w.heap.size, 1, none⟩ (.int .u64 f01)).setCell ⟨w.heap.size, 2, none⟩ (.int .u64 f02)).setCell ⟨w.heap.size, 3, none⟩ (.int .u64 f03)).setCell ⟨w.heap.size, 4, none⟩ (.int .u64 f04)).setCell ⟨w.heap.size, 5, none⟩ (.int .u64 f05)) = u1 at *
 have F0 := F0'
 have B0 := B0'
 clear F0' B0'
 refine (digit1 f00 f01 f02 f03 f04 f05 x01 u1 hd1 p01 (by rw [HV1.out]; omega)).mono ?_
 rintro e w1 ⟨f10, f11, f12, f13, f14, f15, rfl, hd2, hv2, hb⟩
 have HV2 : Hid (dval f10 f11 f12 f13 f14 f15 = V + x00 * 1 + x01 * 4294967296) := Lib.hid (by rw [hv2, HV1.out])
 replace F0 := F0.below hb
 replace B0 := B0.trans (hb.mono B0.size)
 clear hb hv2
 have m0 := F0.head
 have zm0 := F0.headF
 have m1 := F0.tail.head
 have zm1 := F0.tail.headF
 have m2 := F0.tail.tail.head
 have zm2 := F0.tail.tail.headF
 have m3 := F0.tail.tail.tail.head
 have zm3 := F0.tail.tail.tail.headF
 have m4 := F0.tail.tail.tail.tail.head
 have zm4 := F0.tail.tail.tail.tail.headF
 have m5 := F0.tail.tail.tail.tail.tail.head
 have zm5 := F0.tail.tail.tail.tail.tail.headF
 have r0 := F0.tail.tail.tail.tail.tail.tail.head
 have r1 := F0.tail.tail.tail.tail.tail.tail.tail.head
 have r2 := F0.tail.tail.tail.tail.tail.tail.tail.tail.head
 have r3 := F0.tail.tail.tail.tail.tail.tail.tail.tail.tail.head
 have r4 := F0.tail.tail.tail.tail.tail.tail.tail.tail.tail.tail.head
 have r5 := F0.tail.tail.tail.tail.tail.tail.tail.tail.tail.tail.tail.head
 have F0' : Cl ([(w.heap.size, 0, .int .u64 f10), (w.heap.size, 1, .int .u64 f11), (w.heap.size, 2, .int .u64 f12), (w.heap.size, 3, .int .u64 f13), (w.heap.size, 4, .int .u64 f14), (w.heap.size, 5, .int .u64 f15)] ++ [(w.heap.size + 1, 0, .int .u64 0), (w.heap.size + 1, 1, .int .u64 0), (w.heap.size + 1, 2, .int .u64 0), (w.heap.size + 1, 3, .int .u64 0), (w.heap.size + 1, 4, .int .u64 0), (w.heap.size + 1, 5, .int .u64 0)]) ((((((w1.setCell ⟨w.heap.size, 0, none⟩ (.int .u64 f10)).setCell ⟨w.heap.size, 1, none⟩ (.int .u64 f11)).setCell ⟨w.heap.size, 2, none⟩ (.int .u64 f12)).setCell ⟨w.heap.size, 3, none⟩ (.int .u64 f13)).setCell ⟨w.heap.size, 4, none⟩ (.int .u64 f14)).setCell ⟨w.heap.size, 5, none⟩ (.int .u64 f15)) := (put6 (F0.sub (L' := [(w.heap.size, 0, .int .u64 f00), (w.heap.size, 1, .int .u64 f01), (w.heap.size, 2, .int .u64 f02), (w.heap.size, 3, .int .u64 f03), (w.heap.size, 4, .int .u64 f04), (w.heap.size, 5, .int .u64 f05)]) (fun x hx => List.mem_append_left _ hx))).append (put6_far (F0.sub (L' := [(w.heap.size + 1, 0, .int .u64 0), (w.heap.size + 1, 1, .int .u64 0), (w.heap.size + 1, 2, .int .u64 0), (w.heap.size + 1, 3, .int .u64 0), (w.heap.size + 1, 4, .int .u64 0), (w.heap.size + 1, 5, .int .u64 0)]) (fun x hx => List.mem_append_right _ hx)) (by simp))
 have B0' := put6_below (g := w.heap.size) (e0 := f10) (e1 := f11) (e2 := f12) (e3 := f13) (e4 := f14) (e5 := f15) B0 hgs
 go_wp2_with fail
 clear m0 m1 m2 m3 m4 m5 r0 r1 r2 r3 r4 r5 zm0 zm1 zm2 zm3 zm4 zm5 F0 B0
 generalize ((((((w1.setCell ⟨w.heap.size, 0, none⟩ (.int .u64 f10)).setCell ⟨w.heap.size, 1, none⟩ (.int .u64 f11)).setCell ⟨w.heap.size, 2, none⟩ (.int .u64 f12)).setCell ⟨w.heap.size, 3, none⟩ (.int .u64 f13)).setCell ⟨w.heap.size, 4, none⟩ (.int .u64 f14)).setCell ⟨w.heap.size, 5, none⟩ (.int .u64 f15)) = u2 at *
 have F0 := F0'
 have B0 := B0'
 clear F0' B0'
 refine (digit1 f10 f11 f12 f13 f14 f15 x10 u2 hd2 p10 (by rw [HV2.out]; omega)).mono ?_
 rintro e w2 ⟨f20, f21, f22, f23, f24, f25, rfl, hd3, hv3, hb⟩
 have HV3 : Hid (dval f20 f21 f22 f23 f24 f25 = V + x00 * 1 + x01 * 4294967296 + x10 * 4294967296) := Lib.hid (by rw [hv3, HV2.out])
 replace F0 := F0.below hb
 replace B0 := B0.trans (hb.mono B0.size)
 clear hb hv3
 have m0 := F0.head
 have zm0 := F0.headF
 have m1 := F0.tail.head
 have zm1 := F0.tail.headF
 have m2 := F0.tail.tail.head
 have zm2 := F0.tail.tail.headF
 have m3 := F0.tail.tail.tail.head
 have zm3 := F0.tail.tail.tail.headF
 have m4 := F0.tail.tail.tail.tail.head
 have zm4 := F0.tail.tail.tail.tail.headF
 have m5 := F0.tail.tail.tail.tail.tail.head
 have zm5 := F0.tail.tail.tail.tail.tail.headF
 have r0 := F0.tail.tail.tail.tail.tail.tail.head
 have r1 := F0.tail.tail.tail.tail.tail.tail.tail.head
 have r2 := F0.tail.tail.tail.tail.tail.tail.tail.tail.head
 have r3 := F0.tail.tail.tail.tail.tail.tail.tail.tail.tail.head
 have r4 := F0.tail.tail.tail.tail.tail.tail.tail.tail.tail.tail.head
 have r5 := F0.tail.tail.tail.tail.tail.tail.tail.tail.tail.tail.tail.head
 have F0' : Cl ([(w.heap.size, 0, .int .u64 f20), (w.heap.size, 1, .int .u64 f21), (w.heap.size, 2, .int .u64 f22), (w.heap.size, 3, .int .u64 f23), (w.heap.size, 4, .int .u64 f24), (w.heap.size, 5, .int .u64 f25)] ++ [(w.heap.size + 1, 0, .int .u64 0), (w.heap.size + 1, 1, .int .u64 0), (w.heap.size + 1, 2, .int .u64 0), (w.heap.size + 1, 3, .int .u64 0), (w.heap.size + 1, 4, .int .u64 0), (w.heap.size + 1, 5, .int .u64 0)]) ((((((w2.setCell ⟨w.heap.size, 0, none⟩ (.int .u64 f20)).setCell ⟨w.heap.size, 1, none⟩ (.int .u64 f21)).setCell ⟨w.heap.size, 2, none⟩ (.int .u64 f22)).setCell ⟨w.heap.size, 3, none⟩ (.int .u64 f23)).setCell ⟨w.heap.size, 4, none⟩ (.int .u64 f24)).setCell ⟨w.heap.size, 5, none⟩ (.int .u64 f25)) := (put6 (F0.sub (L' := [(w.heap.size, 0, .int .u64 f10), (w.heap.size, 1, .int .u64 f11), (w.heap.size, 2, .int .u64 f12), (w.heap.size, 3, .int .u64 f13), (w.heap.size, 4, .int .u64 f14), (w.heap.size, 5, .int .u64 f15)]) (fun x hx => List.mem_append_left _ hx))).append (put6_far (F0.sub (L' := [(w.heap.size + 1, 0, .int .u64 0), (w.heap.size + 1, 1, .int .u64 0), (w.heap.size + 1, 2, .int .u64 0), (w.heap.size + 1, 3, .int .u64 0), (w.heap.size + 1, 4, .int .u64 0), (w.heap.size + 1, 5, .int .u64 0)]) (fun x hx => List.mem_append_right _ hx)) (by simp))
 have B0' := put6_below (g := w.heap.size) (e0 := f20) (e1 := f21) (e2 := f22) (e3 := f23) (e4 := f24) (e5 := f25) B0 hgs
 go_wp2_with fail
 clear m0 m1 m2 m3 m4 m5 r0 r1 r2 r3 r4 r5 zm0 zm1 zm2 zm3 zm4 zm5 F0 B0
 generalize ((((((w2.setCell ⟨w.heap.size, 0, none⟩ (.int .u64 f20)).setCell ⟨w.heap.size, 1, none⟩ (.int .u64 f21)).setCell ⟨w.heap.size, 2, none⟩ (.int .u64 f22)).setCell ⟨w.heap.size, 3, none⟩ (.int .u64 f23)).setCell ⟨w.heap.size, 4, none⟩ (.int .u64 f24)).setCell ⟨w.heap.size, 5, none⟩ (.int .u64 f25)) = u3 at *
 have F0 := F0'
 have B0 := B0'
 clear F0' B0'
 refine (digit2 f20 f21 f22 f23 f24 f25 x11 u3 hd3 p11 (by rw [HV3.out]; omega)).mono ?_
 rintro e w3 ⟨f30, f31, f32, f33, f34, f35, rfl, hd4, hv4, hb⟩
 have HV4 : Hid (dval f30 f31 f32 f33 f34 f35 = V + x00 * 1 + x01 * 4294967296 + x10 * 4294967296 + x11 * 18446744073709551616) := Lib.hid (by rw [hv4, HV3.out])
 replace F0 := F0.below hb
 replace B0 := B0.trans (hb.mono B0.size)
 clear hb hv4
 have m0 := F0.head
 have zm0 := F0.headF
 have m1 := F0.tail.head
 have zm1 := F0.tail.headF
 have m2 := F0.tail.tail.head
 have zm2 := F0.tail.tail.headF
 have m3 := F0.tail.tail.tail.head
 have zm3 := F0.tail.tail.tail.headF
 have m4 := F0.tail.tail.tail.tail.head
 have zm4 := F0.tail.tail.tail.tail.headF
 have m5 := F0.tail.tail.tail.tail.tail.head
 have zm5 := F0.tail.tail.tail.tail.tail.headF
 have r0 := F0.tail.tail.tail.tail.tail.tail.head
 have zr0 := F0.tail.tail.tail.tail.tail.tail.headF
 have r1 := F0.tail.tail.tail.tail.tail.tail.tail.head
 have zr1 := F0.tail.tail.tail.tail.tail.tail.tail.headF
 have r2 := F0.tail.tail.tail.tail.tail.tail.tail.tail.head
 have zr2 := F0.tail.tail.tail.tail.tail.tail.tail.tail.headF
 have r3 := F0.tail.tail.tail.tail.tail.tail.tail.tail.tail.head
 have zr3 := F0.tail.tail.tail.tail.tail.tail.tail.tail.tail.headF
 have r4 := F0.tail.tail.tail.tail.tail.tail.tail.tail.tail.tail.head
 have zr4 := F0.tail.tail.tail.tail.tail.tail.tail.tail.tail.tail.headF
 have r5 := F0.tail.tail.tail.tail.tail.tail.tail.tail.tail.tail.tail.head
 have zr5 := F0.tail.tail.tail.tail.tail.tail.tail.tail.tail.tail.tail.headF
 go_wp2
 exact bodyPost_ret (v := .agg #[.int .u64 f30, .int .u64 f31, .int .u64 f32, .int .u64 f33, .int .u64 f34, .int .u64 f35]) (by simp [results, Tryd.results91, go_sem, r0, r1, r2, r3, r4, r5, zr0, zr1, zr2, zr3, zr4, zr5]) rfl ⟨f30, f31, f32, f33, f34, f35, rfl, hd4, HF.out _ HV4.out.symm, put6_below B0 hg1⟩
end Go.Proofs.YtbicmlkjonaccaaDoor.Ln


namespace Go.Proofs.YtbicmlkjonaccaaDoor.Ln
open Go.ChangeShapes Go.WideShapes Go.ChangeAt Go.RowKit
set_option linter.unusedVariables false
set_option linter.unusedSimpArgs false
set_option maxRecDepth 100000 in
set_option maxHeartbeats 32000000 in
theorem less1 (b0 b1 b2 b3 b4 b5 a0 a1 a2 a3 a4 a5 : Int) (w : World) (hA : ((0 <= a0 /\ a0 < 4294967296) /\ (0 <= a1 /\ a1 < 4294967296) /\ (0 <= a2 /\ a2 < 4294967296) /\ (0 <= a3 /\ a3 < 4294967296) /\ (0 <= a4 /\ a4 < 4294967296) /\ (0 <= a5 /\ a5 < 4294967296))) (hB : ((0 <= b0 /\ b0 < 4294967296) /\ (0 <= b1 /\ b1 < 4294967296) /\ (0 <= b2 /\ b2 < 4294967296) /\ (0 <= b3 /\ b3 < 4294967296) /\ (0 <= b4 /\ b4 < 4294967296) /\ (0 <= b5 /\ b5 < 4294967296))) :
  Calls Tryd.prog 93 #[.agg #[.int .u64 a0, .int .u64 a1, .int .u64 a2, .int .u64 a3, .int .u64 a4, .int .u64 a5], .agg #[.int .u64 b0, .int .u64 b1, .int .u64 b2, .int .u64 b3, .int .u64 b4, .int .u64 b5]] w fun e w' => e = .returned (.bool (decide (dval a0 a1 a2 a3 a4 a5 < dval b0 b1 b2 b3 b4 b5))) /\ Below w.heap.size w w' := by
 by_cases h5 : b5 = a5
 ·subst h5
  by_cases h4 : b4 = a4
  ·subst h4
   by_cases h3 : b3 = a3
   ·subst h3
    by_cases h2 : b2 = a2
    ·subst h2
     by_cases h1 : b1 = a1
     ·subst h1
      by_cases h0 : b0 = a0
      ·subst h0
       have HR : Hid (false = decide (dval b0 b1 b2 b3 b4 b5 < dval b0 b1 b2 b3 b4 b5)) := Lib.hid (by rw [decide_eq_false (by omega)])
       clear hA hB
       go_enter Tryd.func93, Tryd.ntmps93
       go_wp2
       refine wp_loop_rounds 7 ?_
       rw [rounds_succ]
       go_wp2
       go_quiet (fail)
       go_wp2
       rw [rounds_succ]
       go_wp2
       go_quiet (fail)
       go_wp2
       rw [rounds_succ]
       go_wp2
       go_quiet (fail)
       go_wp2
       rw [rounds_succ]
       go_wp2
       go_quiet (fail)
       go_wp2
       rw [rounds_succ]
       go_wp2
       go_quiet (fail)
       go_wp2
       rw [rounds_succ]
       go_wp2
       go_quiet (fail)
       go_wp2
       rw [rounds_succ]
       go_wp2
       go_ret
       exact ⟨ret_bool HR.out, by (repeat (refine below_drewN ?_ _)); exact two_below _ _⟩
      ·have hb0 : (a0 == b0) = false := beq_false_of_ne (fun e => h0 e.symm)
       have hn0 : (a0 != b0) = true := by rw [bne, hb0]; rfl
       have HR : Hid (decide (a0 < b0) = decide (dval a0 b1 b2 b3 b4 b5 < dval b0 b1 b2 b3 b4 b5)) := Lib.hid (by rw [Bool.eq_iff_iff, decide_eq_true_eq, decide_eq_true_eq]; unfold dval; omega)
       clear hA hB h0
       go_enter Tryd.func93, Tryd.ntmps93
       go_wp2
       refine wp_loop_rounds 7 ?_
       rw [rounds_succ]
       go_wp2
       go_quiet (fail)
       go_wp2
       rw [rounds_succ]
       go_wp2
       go_quiet (fail)
       go_wp2
       rw [rounds_succ]
       go_wp2
       go_quiet (fail)
       go_wp2
       rw [rounds_succ]
       go_wp2
       go_quiet (fail)
       go_wp2
       rw [rounds_succ]
       go_wp2
       go_quiet (fail)
       go_wp2
       rw [rounds_succ]
       go_wp2
       go_quiet (fail)
       go_wp2
       go_quiet (fail)
       go_wp2
       go_ret
       exact ⟨ret_bool HR.out, by (repeat (refine below_drewN ?_ _)); exact two_below _ _⟩
     ·have hb1 : (a1 == b1) = false := beq_false_of_ne (fun e => h1 e.symm)
      have hn1 : (a1 != b1) = true := by rw [bne, hb1]; rfl
      have HR : Hid (decide (a1 < b1) = decide (dval a0 a1 b2 b3 b4 b5 < dval b0 b1 b2 b3 b4 b5)) := Lib.hid (by rw [Bool.eq_iff_iff, decide_eq_true_eq, decide_eq_true_eq]; unfold dval; omega)
      clear hA hB h1
      go_enter Tryd.func93, Tryd.ntmps93
      go_wp2
      refine wp_loop_rounds 7 ?_
      rw [rounds_succ]
      go_wp2
      go_quiet (fail)
      go_wp2
      rw [rounds_succ]
      go_wp2
      go_quiet (fail)
      go_wp2
      rw [rounds_succ]
      go_wp2
      go_quiet (fail)
      go_wp2
      rw [rounds_succ]
      go_wp2
      go_quiet (fail)
      go_wp2
      rw [rounds_succ]
      go_wp2
      go_quiet (fail)
      go_wp2
      go_quiet (fail)
      go_wp2
      go_ret
      exact ⟨ret_bool HR.out, by (repeat (refine below_drewN ?_ _)); exact two_below _ _⟩
    ·have hb2 : (a2 == b2) = false := beq_false_of_ne (fun e => h2 e.symm)
     have hn2 : (a2 != b2) = true := by rw [bne, hb2]; rfl
     have HR : Hid (decide (a2 < b2) = decide (dval a0 a1 a2 b3 b4 b5 < dval b0 b1 b2 b3 b4 b5)) := Lib.hid (by rw [Bool.eq_iff_iff, decide_eq_true_eq, decide_eq_true_eq]; unfold dval; omega)
     clear hA hB h2
     go_enter Tryd.func93, Tryd.ntmps93
     go_wp2
     refine wp_loop_rounds 7 ?_
     rw [rounds_succ]
     go_wp2
     go_quiet (fail)
     go_wp2
     rw [rounds_succ]
     go_wp2
     go_quiet (fail)
     go_wp2
     rw [rounds_succ]
     go_wp2
     go_quiet (fail)
     go_wp2
     rw [rounds_succ]
     go_wp2
     go_quiet (fail)
     go_wp2
     go_quiet (fail)
     go_wp2
     go_ret
     exact ⟨ret_bool HR.out, by (repeat (refine below_drewN ?_ _)); exact two_below _ _⟩
   ·have hb3 : (a3 == b3) = false := beq_false_of_ne (fun e => h3 e.symm)
    have hn3 : (a3 != b3) = true := by rw [bne, hb3]; rfl
    have HR : Hid (decide (a3 < b3) = decide (dval a0 a1 a2 a3 b4 b5 < dval b0 b1 b2 b3 b4 b5)) := Lib.hid (by rw [Bool.eq_iff_iff, decide_eq_true_eq, decide_eq_true_eq]; unfold dval; omega)
    clear hA hB h3
    go_enter Tryd.func93, Tryd.ntmps93
    go_wp2
    refine wp_loop_rounds 7 ?_
    rw [rounds_succ]
    go_wp2
    go_quiet (fail)
    go_wp2
    rw [rounds_succ]
    go_wp2
    go_quiet (fail)
    go_wp2
    rw [rounds_succ]
    go_wp2
    go_quiet (fail)
    go_wp2
    go_quiet (fail)
    go_wp2
    go_ret
    exact ⟨ret_bool HR.out, by (repeat (refine below_drewN ?_ _)); exact two_below _ _⟩
  ·have hb4 : (a4 == b4) = false := beq_false_of_ne (fun e => h4 e.symm)
   have hn4 : (a4 != b4) = true := by rw [bne, hb4]; rfl
   have HR : Hid (decide (a4 < b4) = decide (dval a0 a1 a2 a3 a4 b5 < dval b0 b1 b2 b3 b4 b5)) := Lib.hid (by rw [Bool.eq_iff_iff, decide_eq_true_eq, decide_eq_true_eq]; unfold dval; omega)
   clear hA hB h4
   go_enter Tryd.func93, Tryd.ntmps93
   go_wp2
   refine wp_loop_rounds 7 ?_
   rw [rounds_succ]
   go_wp2
   go_quiet (fail)
   go_wp2
   rw [rounds_succ]
   go_wp2
   go_quiet (fail)
   go_wp2
   go_quiet (fail)
   go_wp2
   go_ret
   exact ⟨ret_bool HR.out, by (repeat (refine below_drewN ?_ _)); exact two_below _ _⟩
 ·have hb5 : (a5 == b5) = false := beq_false_of_ne (fun e => h5 e.symm)
  have hn5 : (a5 != b5) = true := by rw [bne, hb5]; rfl
  have HR : Hid (decide (a5 < b5) = decide (dval a0 a1 a2 a3 a4 a5 < dval b0 b1 b2 b3 b4 b5)) := Lib.hid (by rw [Bool.eq_iff_iff, decide_eq_true_eq, decide_eq_true_eq]; unfold dval; omega)
  clear hA hB h5
  go_enter Tryd.func93, Tryd.ntmps93
  go_wp2
  refine wp_loop_rounds 7 ?_
  rw [rounds_succ]
  go_wp2
  go_quiet (fail)
  go_wp2
  go_quiet (fail)
  go_wp2
  go_ret
  exact ⟨ret_bool HR.out, by (repeat (refine below_drewN ?_ _)); exact two_below _ _⟩
end Go.Proofs.YtbicmlkjonaccaaDoor.Ln
