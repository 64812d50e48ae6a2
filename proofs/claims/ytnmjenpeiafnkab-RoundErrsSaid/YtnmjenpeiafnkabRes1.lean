/- Residual of package round. -/
import Derived.Test.YtnmjenpeiafnkabRes0
import Derived.Deep.RegionHeld3
import Derived.Deep.RegionWith
namespace Go.Proofs.Ytnmjenpeiafnkab.Fr
open Go.ChangeShapes Go.WideShapes Go.ChangeAt Go.RowKit
set_option linter.unusedVariables false

set_option maxHeartbeats 4000000 in
theorem res_ok (n d frac how p T q S Y : Int) (w : World) (f0 : 0 ≤ frac) (f1 : frac ≤ 30) (hp : (2 : Int) ^ frac.toNat = p) (p0 : 1 ≤ p) (p1 : p ≤ 1073741824) (hT : n * p = T) (t0 : -2305843009213693952 ≤ T) (t1 : T ≤ 2305843009213693952)
    (hS : q * d = S) (s0 : -2305843011361177600 ≤ S) (s1 : S ≤ 2305843011361177600) (hY : d * p = Y) (y0 : 1 ≤ Y) (y1 : Y ≤ 2305843009213693952)
    (Q : Hid (∀ w, Calls Try.prog 10 #[.agg #[.int .i64 n, .int .i64 d], .int .i64 frac, .int .i64 how] w (Ret (.tuple #[.int .i64 q, .int .i64 0]) w))) :
    Calls Try.prog 6 #[.agg #[.int .i64 n, .int .i64 d], .int .i64 frac, .int .i64 how] w (Ret (Frac3 (newN (T - S) Y) (newD (T - S) Y) (newE (T - S) Y)) w) := by
  go_enter Try.func6, Try.ntmps6
  go_wp2_with (go_at_call 10; refine (Q.out _).mono ?_; rintro e w1 ⟨rfl, hb⟩; have hc := (bcell hb).1; have hf := (bcell hb).2)
  have h0 := hc w.heap.size 0 (by simp <;> omega)
  have h1 := hc w.heap.size 1 (by simp <;> omega)
  have h2 := hc (w.heap.size + 1) 0 (by simp <;> omega)
  have h3 := hc (w.heap.size + 1) 1 (by simp <;> omega)
  have g2 := hf (w.heap.size + 1) 0 (by simp <;> omega)
  have g3 := hf (w.heap.size + 1) 1 (by simp <;> omega)
  have hz : w.heap.size + 2 ≤ w1.heap.size := by have := hb.size; simp at this; omega
  simp at h0 h1 h2 h3 g2 g3
  clear hc hf
  have hz0 : w.heap.size < w1.heap.size := by omega
  have hz1 : w.heap.size + 1 < w1.heap.size := by omega
  have u0 : -9223372036854775808 ≤ T - S := by omega
  have u1 : T - S ≤ 9223372036854775807 := by omega
  have v0 : -9223372036854775808 ≤ Y := by omega
  have v1 : Y ≤ 9223372036854775807 := by omega
  have LW := Lib.hid (fun w => rlow_any (T - S) Y w u0 u1 v0 v1)
  have k1 : IntKind.i64.wrap T = T := IntWalk.i64_in _ ⟨by omega, by omega⟩
  have k2 : IntKind.i64.wrap S = S := IntWalk.i64_in _ ⟨by clear k1; omega, by clear k1; omega⟩
  have k3 : IntKind.i64.wrap (T - S) = T - S := IntWalk.i64_in _ ⟨u0, u1⟩
  have k4 : IntKind.i64.wrap Y = Y := IntWalk.i64_in _ ⟨v0, v1⟩
  go_region_held3 (fun w' => w'.cell? ⟨w.heap.size, 0, none⟩ = some (.int .i64 n) ∧ w'.cell? ⟨w.heap.size, 1, none⟩ = some (.int .i64 d)) (first | go_keep | exact ⟨by assumption, by assumption⟩)
    (first | (go_at_call 11; refine (LW.out _).mono ?_; rintro e w2 ⟨rfl, hb2⟩; have i0 := ((bcell hb2).1 w.heap.size 0 hz0).trans h0; have i1 := ((bcell hb2).1 w.heap.size 1 hz0).trans h1; have i2 := ((bcell hb2).1 (w.heap.size + 1) 0 hz1).trans h2; have i3 := ((bcell hb2).1 (w.heap.size + 1) 1 hz1).trans h3; have j2 := ((bcell hb2).2 (w.heap.size + 1) 0 hz1).trans g2; have j3 := ((bcell hb2).2 (w.heap.size + 1) 1 hz1).trans g3))
  clear k1 k2 k3 k4
  go_wp2
  refine bodyPost_ret (v := Frac3 _ _ _) (by simp [results, Try.results6, go_sem, i2, i3]) rfl ⟨rfl, ?_⟩
  refine Below.setCell (Below.setCell ?_ (by simp) _) (by simp) _
  refine (((Below.refl _ _).alloc (Nat.le_refl _) _).alloc (by simp) _).trans ((hb.mono (by simp <;> omega)).trans ?_)
  exact (Below.drew (Below.refl _ _)).trans (hb2.mono (by have := hz0; simp <;> omega))
end Go.Proofs.Ytnmjenpeiafnkab.Fr
