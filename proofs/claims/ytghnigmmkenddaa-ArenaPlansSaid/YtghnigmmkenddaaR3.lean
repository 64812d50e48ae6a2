/- LowerBound of the reference. -/
import Derived.Test.YtghnigmmkenddaaR1
import Derived.Test.YtghnigmmkenddaaC5m
namespace Go.Proofs.Ytghnigmmkenddaa.Ar
open Go.ChangeShapes Go.WideShapes Go.ChangeAt Go.RowKit
open Go.Proofs.Ytghnigmmkenddaa.Lv Go.Proofs.Ytghnigmmkenddaa.Nm
set_option linter.unusedVariables false
set_option linter.unusedSimpArgs false

def live (xs : List Lf) (i j : Nat) : Bool := decide ((xs.getD j lf0).2.1 ≤ (xs.getD i lf0).2.1) && decide ((xs.getD i lf0).2.1 ≤ (xs.getD j lf0).2.2.1)
theorem range_snoc (k : Nat) : List.range (k + 1) = List.range k ++ [k] := List.range_succ
theorem live_sum (xs : List Lf) (i k : Nat) : sm (szF xs) ((List.range (k + 1)).filter (at' (frF xs) (toF xs) i)) = sm (szF xs) ((List.range k).filter (at' (frF xs) (toF xs) i)) + if live xs i k = true then szF xs k else 0 := by
  rw [range_snoc, List.filter_append, sm_app]
  have e : at' (frF xs) (toF xs) i k = live xs i k := rfl
  by_cases h : live xs i k = true
  · rw [if_pos h, List.filter_cons_of_pos (by rw [e]; exact h)]
    show _ + (szF xs k + 0) = _
    omega
  · rw [if_neg h, List.filter_cons_of_neg (by rw [e]; exact h)]
    rfl
theorem mxl_snoc : ∀ (l : List Int) (x : Int), mxl (l ++ [x]) = max (mxl l) (max x 0)
  | [], x => by show max x 0 = max 0 (max x 0); omega
  | y :: r, x => by
    have ih := mxl_snoc r x
    show max y (mxl (r ++ [x])) = max (max y (mxl r)) (max x 0)
    rw [ih]; omega
set_option maxRecDepth 100000 in
set_option maxHeartbeats 8000000 in
/-- LowerBound of the reference. -/
theorem lowR (p : Option Addr) (xs : List Lf) (c n : Nat) (w : World) (HN : Hid (xs.length = n)) (hn : n ≤ 60) (RA : Hid (SlL w p xs)) (RS : Hid (∀ i, i < xs.length → (xs.getD i lf0).1.size ≤ maxLen)) :
    Calls Try.prog 14 #[.slice p n c] w fun e w' => e = .returned (.int .i64 (lbF xs)) ∧ Below w.heap.size w w' := by
  have C := Lib.hid (rval p xs c w (by rw [HN.out]; exact hn) RA RS)
  rw [HN.out] at C
  by_cases hv : vE xs = 0
  case neg =>
    have HE : Hid (lbF xs = 0) := Lib.hid (by unfold lbF; rw [if_neg hv])
    obtain ⟨E, hE⟩ : ∃ E, vE xs = E := ⟨_, rfl⟩
    rw [hE] at C hv
    have e1 : (E != 0) = true := by simpa using hv
    clear hE
    go_enter Try.func14, Try.ntmps14
    go_wp2_with (go_at_call 23; (with_reducible refine C.out.mono ?_); rintro e w1 ⟨rfl, B1⟩)
    go_ret
    rw [HE.out]
    exact ⟨rfl, B1⟩
  rw [hv] at C
  have HV := Lib.hid hv
  have HZ : Hid (∀ i, i < n → 1 ≤ szF xs i ∧ szF xs i ≤ 4096) := Lib.hid fun i hi => by have := valid_at HV.out (i := i) (by rw [HN.out]; exact hi); unfold szF; omega
  obtain ⟨RES, hRES⟩ : ∃ RES, lbF xs = RES := ⟨_, rfl⟩
  have HRES : Hid (mxl ((List.range n).map fun i => Ss (frF xs) (toF xs) (szF xs) (List.range n) i) = RES) := Lib.hid (by rw [← hRES]; unfold lbF; rw [if_pos hv, HN.out])
  have HSB : Hid (∀ i k, k ≤ n → 0 ≤ sm (szF xs) ((List.range k).filter (at' (frF xs) (toF xs) i)) ∧ sm (szF xs) ((List.range k).filter (at' (frF xs) (toF xs) i)) ≤ 245760) := Lib.hid fun i k hk => sm_bd hn HZ.out (Nat.le_trans (List.length_filter_le _ _) (by rw [List.length_range]; exact hk)) (fun j hj => by have := List.mem_range.1 (List.mem_filter.1 hj).1; omega)
  rw [hRES]
  clear hRES hv
  go_enter Try.func14, Try.ntmps14
  go_wp2_with (go_at_call 23; (with_reducible refine C.out.mono ?_); rintro e w1 ⟨rfl, B1⟩)
  have HB1 := Lib.hid B1
  clear B1
  go_loopw [3, 4] (fun mv iv wr => ∃ (i : Nat) (G : Int), iv = .int .i64 (i : Int) ∧ mv = .int .i64 G ∧ i ≤ n ∧ 0 ≤ G ∧ G ≤ 245760 ∧ Hid (G = mxl ((List.range i).map fun j => Ss (frF xs) (toF xs) (szF xs) (List.range n) j)) ∧ Hid (Below w.heap.size w wr)) (fun _ iv _ => n - (intOf iv).toNat)
  case atStart => exact ⟨0, 0, rfl, rfl, Nat.zero_le _, Int.le_refl _, by decide, Lib.hid rfl, HB1⟩
  case round =>
    clear HB1
    obtain ⟨i, G, rfl, rfl, hi, G0, G1, HG, hB⟩ := hrel
    by_cases hlt : i < n
    case neg =>
      obtain rfl : i = n := by omega
      have i1 : ¬ (i : Int) < i := by omega
      have HF : Hid (G = RES) := Lib.hid (by rw [HG.out]; exact HRES.out)
      go_wp2_with fail
      go_ret
      rw [HF.out]
      exact ⟨rfl, hB.out⟩
    obtain ⟨b, o, rfl, hbw, c0, c1, c2, c3⟩ := SlL_at RA.out HN.out hlt
    have HC := Lib.hid c1
    have i0' : (0 : Int) ≤ i := by omega
    have i1 : (i : Int) < n := by omega
    clear c0 c1 c2 c3
    go_wp2_with fail
    go_loopw [5, 6] (fun nv kv wr => ∃ (k : Nat) (T : Int), kv = .int .i64 (k : Int) ∧ nv = .int .i64 T ∧ k ≤ n ∧ 0 ≤ T ∧ T ≤ 245760 ∧ Hid (T = sm (szF xs) ((List.range k).filter (at' (frF xs) (toF xs) i))) ∧ Hid (Below w.heap.size w wr)) (fun _ kv _ => n - (intOf kv).toNat)
    case atStart => exact ⟨0, 0, rfl, rfl, Nat.zero_le _, Int.le_refl _, by decide, Lib.hid rfl, hB⟩
    case round =>
      clear hB
      obtain ⟨k, T, rfl, rfl, hk, T0, T1, HT, hB⟩ := hrel
      by_cases hlk : k < n
      case neg =>
        obtain rfl : k = n := by omega
        have k1 : ¬ (k : Int) < k := by omega
        have HGN : Hid (max G T = mxl ((List.range (i + 1)).map fun j => Ss (frF xs) (toF xs) (szF xs) (List.range k) j)) := Lib.hid (by
          rw [range_snoc, List.map_append, List.map_cons, List.map_nil, mxl_snoc, ← HG.out]
          have e : Ss (frF xs) (toF xs) (szF xs) (List.range k) i = T := HT.out.symm
          rw [e]; omega)
        by_cases hmx : G < T
        · rw [show max G T = T by omega] at HGN
          go_wp2_with fail
          go_roundw
          case rel => exact ⟨i + 1, T, by go_num, rfl, by omega, by omega, by omega, HGN, hB⟩
          case measure => simp [intOf]; omega
        · have hmx2 : T ≤ G := by omega
          rw [show max G T = G by omega] at HGN
          clear hmx
          go_wp2_with fail
          go_roundw
          case rel => exact ⟨i + 1, G, by go_num, rfl, by omega, by omega, by omega, HGN, hB⟩
          case measure => simp [intOf]; omega
      obtain ⟨b', o', e, _, d0, d1, d2, d3⟩ := SlL_at RA.out HN.out hlk
      cases e
      have d1 := kpb hB.out hbw d1
      have d2 := kpb hB.out hbw d2
      have d3 := kpb hB.out hbw d3
      have c1 := kpb hB.out hbw HC.out
      have hzk := HZ.out k hlk
      have hsk := live_sum xs i k
      have hsb := HSB.out i (k + 1) hlk
      rw [hsk, ← HT.out] at hsb
      have hlv : live xs i k = (decide ((xs.getD k lf0).2.1 ≤ (xs.getD i lf0).2.1) && decide ((xs.getD i lf0).2.1 ≤ (xs.getD k lf0).2.2.1)) := rfl
      have hsz : szF xs k = (xs.getD k lf0).2.2.2 := rfl
      rw [hsz] at hzk hsk hsb
      obtain ⟨x, hx⟩ : ∃ x, (xs.getD k lf0).2.1 = x := ⟨_, rfl⟩
      obtain ⟨y, hy⟩ : ∃ y, (xs.getD k lf0).2.2.1 = y := ⟨_, rfl⟩
      obtain ⟨z, hz⟩ : ∃ z, (xs.getD k lf0).2.2.2 = z := ⟨_, rfl⟩
      obtain ⟨f, hf⟩ : ∃ f, (xs.getD i lf0).2.1 = f := ⟨_, rfl⟩
      rw [hx] at d1 hlv
      rw [hy] at d2 hlv
      rw [hz] at d3 hzk hsk hsb
      rw [hf] at c1 hlv
      rw [hlv, ← HT.out] at hsk
      rw [hlv] at hsb
      obtain ⟨hz1, hz2⟩ := hzk
      have HSK := Lib.hid hsk
      have HSB2 := Lib.hid hsb
      have k0 : (0 : Int) ≤ k := by omega
      have k1 : (k : Int) < n := by omega
      clear d0 hsk hsb hlv hsz hx hy hz hf
      by_cases l1 : x ≤ f
      case neg =>
        have t1 : decide (x ≤ f) = false := decide_eq_false l1
        have HT2 : Hid (T = sm (szF xs) ((List.range (k + 1)).filter (at' (frF xs) (toF xs) i))) := Lib.hid (by rw [HSK.out, t1]; simp)
        clear l1
        go_wp2_with fail
        go_quiet (fail)
        go_wp2_with fail
        go_roundw
        case rel => exact ⟨k + 1, T, by go_num, rfl, by omega, by omega, by omega, HT2, Lib.hid (below_drewN hB.out _)⟩
        case measure => simp [intOf]; omega
      have t1 : decide (x ≤ f) = true := decide_eq_true l1
      by_cases l2 : f ≤ y
      case neg =>
        have t2 : decide (f ≤ y) = false := decide_eq_false l2
        have HT2 : Hid (T = sm (szF xs) ((List.range (k + 1)).filter (at' (frF xs) (toF xs) i))) := Lib.hid (by rw [HSK.out, t1, t2]; simp)
        clear l1 l2
        go_wp2_with fail
        go_quiet (fail)
        go_wp2_with fail
        go_roundw
        case rel => exact ⟨k + 1, T, by go_num, rfl, by omega, by omega, by omega, HT2, Lib.hid (below_drewN hB.out _)⟩
        case measure => simp [intOf]; omega
      have t2 : decide (f ≤ y) = true := decide_eq_true l2
      have HT2 : Hid (T + z = sm (szF xs) ((List.range (k + 1)).filter (at' (frF xs) (toF xs) i))) := Lib.hid (by rw [HSK.out, t1, t2]; simp)
      have HTB : 0 ≤ T + z ∧ T + z ≤ 245760 := by have h := HSB2.out; rw [t1, t2] at h; simpa using h
      obtain ⟨tb0, tb1⟩ := HTB
      have m1 : z < 2147483647 := by omega
      have m2 : ¬ 2147483647 < z := by omega
      have m3 : T + z < 2147483647 := by omega
      have m4 : ¬ 2147483647 < T + z := by omega
      clear l1 l2
      go_wp2_with fail
      go_quiet (fail)
      go_wp2_with fail
      go_roundw
      case rel => exact ⟨k + 1, T + z, by go_num, rfl, by omega, by omega, by omega, HT2, Lib.hid (below_drewN hB.out _)⟩
      case measure => simp [intOf]; omega
end Go.Proofs.Ytghnigmmkenddaa.Ar
