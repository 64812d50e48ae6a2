/- place. -/
import Derived.Test.YtghnigmmkenddaaR1
import Derived.Test.YtghnigmmkenddaaC6m
import Derived.Deep.Cut
namespace Go.Proofs.Ytghnigmmkenddaa.Ar
open Go.ChangeShapes Go.WideShapes Go.ChangeAt Go.RowKit
open Go.Proofs.Ytghnigmmkenddaa.Lv Go.Proofs.Ytghnigmmkenddaa.Nm
set_option linter.unusedVariables false
set_option linter.unusedSimpArgs false

/-- Offsets of the lifetimes: less than 0, where none is placed. -/
def frB (xs : List Lf) (A : List Int) (k : Nat) (x : Int) (j : Nat) : Bool := decide (A.getD j e50 < 0) || !clB (xs.getD k lf0) (xs.getD j lf0) x (A.getD j e50)
def Fre (xs : List Lf) (A : List Int) (k : Nat) (x : Int) : Prop := ∀ j, j < A.length → frB xs A k x j = true
/-- The offsets that are tried. -/
def cnd (xs : List Lf) (A : List Int) : Nat → List Int
  | 0 => []
  | 1 => [0]
  | t + 2 => if A.getD t e50 < 0 then cnd xs A (t + 1) else cnd xs A (t + 1) ++ [A.getD t e50 + (xs.getD t lf0).2.2.2]
/-- What has been found among those tried. -/
def PlI (xs : List Lf) (A : List Int) (k : Nat) (C : List Int) (b : Int) (f : Bool) : Prop := (f = true → b ∈ C ∧ b ≤ 2147483647 - (xs.getD k lf0).2.2.2 ∧ Fre xs A k b) ∧ ∀ x ∈ C, x ≤ 2147483647 - (xs.getD k lf0).2.2.2 → Fre xs A k x → f = true ∧ b ≤ x
theorem PlI.nil (xs : List Lf) (A : List Int) (k : Nat) : PlI xs A k [] 0 false := ⟨fun h => (by cases h), fun x h => absurd h (by simp)⟩
theorem PlI.skip {xs : List Lf} {A : List Int} {k : Nat} {C : List Int} {b x : Int} {f : Bool} (h : PlI xs A k C b f) (hx : 2147483647 - (xs.getD k lf0).2.2.2 < x ∨ (f = true ∧ b ≤ x) ∨ ¬ Fre xs A k x) : PlI xs A k (C ++ [x]) b f :=
  ⟨fun hf => ⟨List.mem_append_left _ (h.1 hf).1, (h.1 hf).2⟩, fun y hy h1 h2 => by
    rcases List.mem_append.1 hy with h3 | h3
    · exact h.2 y h3 h1 h2
    · rw [List.mem_singleton] at h3
      subst h3
      rcases hx with h4 | h4 | h4
      · omega
      · exact h4
      · exact absurd h2 h4⟩
theorem PlI.take {xs : List Lf} {A : List Int} {k : Nat} {C : List Int} {b x : Int} {f : Bool} (h : PlI xs A k C b f) (h1 : x ≤ 2147483647 - (xs.getD k lf0).2.2.2) (h2 : f = true → x < b) (h3 : Fre xs A k x) : PlI xs A k (C ++ [x]) x true :=
  ⟨fun _ => ⟨List.mem_append_right _ (by simp), h1, h3⟩, fun y hy h4 h5 => by
    rcases List.mem_append.1 hy with h6 | h6
    · have h7 := h.2 y h6 h4 h5
      have := h2 h7.1
      exact ⟨rfl, by omega⟩
    · rw [List.mem_singleton] at h6
      exact ⟨rfl, by omega⟩⟩
def PlW (xs : List Lf) (A : List Int) (k n : Nat) (e : Ending) : Prop := ∃ b f, e = .returned (.tuple #[.int .i64 b, .bool f]) ∧ PlI xs A k (cnd xs A (n + 1)) b f
set_option maxRecDepth 100000 in
set_option maxHeartbeats 8000000 in
/-- place. -/
theorem placeC (p : Option Addr) (xs : List Lf) (c n g k : Nat) (A : List Int) (w : World) (HN : Hid (xs.length = n)) (hn : n ≤ 60) (hk : k < n) (RA : Hid (SlL w p xs)) (HZ : Hid (∀ i, i < n → 1 ≤ (xs.getD i lf0).2.2.2 ∧ (xs.getD i lf0).2.2.2 ≤ 4096)) (HA : Hid (A.length = n ∧ ∀ j, j < n → -1 ≤ A.getD j e50 ∧ A.getD j e50 ≤ 245760)) (RK : Hid (∀ i, i < n → w.cell? ⟨g, i, none⟩ = some (.int .i64 (A.getD i e50)))) :
    Calls Try.prog 39 #[.slice p n c, .slice (some ⟨g, 0, none⟩) n n, .int .i64 (k : Int)] w fun e w' => PlW xs A k n e ∧ Below w.heap.size w w' := by
  have CL := Lib.hid clashC
  unfold Lv4 at CL
  have hzk := HZ.out k hk
  obtain ⟨bk, ok, hpk, hbk, ck0, ck1_, ck2, ck3⟩ := SlL_at RA.out HN.out hk
  obtain ⟨y, hy⟩ : ∃ y, xs.getD k lf0 = y := ⟨_, rfl⟩
  have HY := Lib.hid hy
  rw [hy] at hzk ck0 ck1_ ck2 ck3
  obtain ⟨zk1, zk2⟩ := hzk
  have HCK := Lib.hid (And.intro ck0 (And.intro ck1_ (And.intro ck2 ck3)))
  have hgb : g < w.heap.size := cl_lt (RK.out k hk)
  have kk0 : (0 : Int) ≤ k := by omega
  have kk1 : (k : Int) < n := by omega
  subst hpk
  clear hy ck0 ck1_ ck2 ck3
  go_enter Try.func39, Try.ntmps39
  go_wp2_with fail
  go_loopw [8, 9, 10] (fun bv fv iv wr => ∃ (t : Nat) (b : Int) (f : Bool), iv = .int .i64 ((t : Int) - 1) ∧ bv = .int .i64 b ∧ fv = .bool f ∧ t ≤ n + 1 ∧ 0 ≤ b ∧ b ≤ 250000 ∧ Hid (PlI xs A k (cnd xs A t) b f) ∧ Hid (Below w.heap.size w wr)) (fun _ _ iv _ => n + 1 - (intOf iv + 1).toNat)
  case atStart => exact ⟨0, 0, false, rfl, rfl, rfl, by omega, Int.le_refl _, by decide, Lib.hid (PlI.nil _ _ _), Lib.hid (Below.refl _ _)⟩
  case round =>
    obtain ⟨t, b, f, rfl, rfl, rfl, ht, b0, b1, HP, hB⟩ := hrel
    by_cases hlt : t ≤ n
    case neg =>
      obtain rfl : t = n + 1 := by omega
      have i1 : ¬ (((n + 1 : Nat) : Int) - 1 < n) := by omega
      go_wp2_with fail
      refine bodyPost_ret (v := .tuple #[.int .i64 b, .bool f]) (by simp [results, Try.results39, go_sem]) rfl ?_
      exact ⟨⟨b, f, rfl, HP.out⟩, hB.out⟩
    obtain ⟨w0, hw0⟩ : ∃ w0, w0 = wr := ⟨_, rfl⟩
    subst hw0
    rcases Nat.eq_zero_or_pos t with rfl | htp
    · have HCN : Hid (cnd xs A (0 + 1) = cnd xs A 0 ++ [0]) := Lib.hid rfl
      have e1 : ((0 : Nat) : Int) - 1 = -1 := by decide
      rw [e1]
      have i1 : (-1 : Int) < n := by omega
      clear e1
      go_upto_region 10 with fail
      have ti : ((0 + 1 : Nat) : Int) - 1 = -1 + 1 := by decide
      have hBW := hB
      clear hB
      have z3 := kpb hBW.out hbk HCK.out.2.2.2
      have hzB : ¬ (2147483647 - y.2.2.2 < 0) := by omega
      cases f
      · skip
        go_wp2_with fail
        go_loopw [12, 13] (fun fr jv wr => ∃ (j : Nat) (q : Bool), jv = .int .i64 (j : Int) ∧ fr = .bool q ∧ j ≤ n ∧ Hid (q = true ↔ ∀ j', j' < j → frB xs A k 0 j' = true) ∧ Hid (Below w.heap.size w wr)) (fun _ jv _ => n - (intOf jv).toNat)
        case atStart => exact ⟨0, true, rfl, rfl, Nat.zero_le _, Lib.hid ⟨fun _ j' h => absurd h (Nat.not_lt_zero _), fun _ => rfl⟩, hBW⟩
        case round =>
          obtain ⟨j, q, rfl, rfl, hj, HQ, hBj⟩ := hrel
          obtain ⟨wj, hwj⟩ : ∃ wj, wj = wr := ⟨_, rfl⟩
          subst hwj
          by_cases hlj : j < n
          case neg =>
            obtain rfl : j = n := by omega
            have j1 : ¬ (j : Int) < j := by omega
            cases q
            case false =>
              have HPN : Hid (PlI xs A k (cnd xs A (0 + 1)) b false) := Lib.hid (by rw [HCN.out]; exact HP.out.skip (.inr (.inr (fun h => by have h2 := HQ.out.2 (fun j' h' => h j' (by rw [HA.out.1]; exact h')); cases h2))))
              go_wp2_with fail
              go_roundw
              case rel => exact ⟨0 + 1, b, false, (by first | (rw [ti]; done) | rfl | (go_num; done) | (simp; done)), rfl, rfl, by omega, b0, b1, HPN, hBj⟩
              case measure => (simp [intOf] <;> omega)
            case true =>
              have HPN : Hid (PlI xs A k (cnd xs A (0 + 1)) 0 true) := Lib.hid (by rw [HCN.out]; exact HP.out.take (by rw [HY.out]; omega) (fun h => by cases h) (fun j' h' => HQ.out.1 rfl j' (by rw [← HA.out.1]; exact h')))
              go_wp2_with fail
              go_roundw
              case rel => exact ⟨0 + 1, 0, true, (by first | (rw [ti]; done) | rfl | (go_num; done) | (simp; done)), rfl, rfl, by omega, by omega, by omega, HPN, hBj⟩
              case measure => (simp [intOf] <;> omega)
          have j0 : (0 : Int) ≤ j := by omega
          have j1 : (j : Int) < n := by omega
          have hNX : ∀ r : Bool, frB xs A k 0 j = r → q = true → (r = true ↔ ∀ j', j' < j + 1 → frB xs A k 0 j' = true) := fun r hr hq => ⟨fun h j' h' => by
              rcases Nat.lt_or_eq_of_le (Nat.le_of_lt_succ h') with h1 | rfl
              · exact HQ.out.1 hq j' h1
              · rw [hr]; exact h, fun h => by rw [← hr]; exact h j (Nat.lt_succ_self _)⟩
          have HNX := Lib.hid hNX
          clear hNX
          cases q
          case false =>
            have HQ2 : Hid (false = true ↔ ∀ j', j' < j + 1 → frB xs A k 0 j' = true) := Lib.hid ⟨fun h => (by cases h), fun h => by have h2 := HQ.out.2 (fun j' h' => h j' (by omega)); cases h2⟩
            go_wp2_with fail
            go_quiet (fail)
            go_wp2_with fail
            go_roundw
            case rel => exact ⟨j + 1, false, by go_num, rfl, by omega, (Lib.hid (by first | exact HQ2.out | simpa using HQ2.out)), Lib.hid (below_drewN hBj.out _)⟩
            case measure => (simp [intOf] <;> omega)
          have a3 := kpb hBj.out hgb (RK.out j hlj)
          have hab2 := HA.out.2 j hlj
          have hfr : frB xs A k 0 j = (decide (A.getD j e50 < 0) || !clB (xs.getD k lf0) (xs.getD j lf0) 0 (A.getD j e50)) := rfl
          obtain ⟨a2, ha2⟩ : ∃ a2, A.getD j e50 = a2 := ⟨_, rfl⟩
          rw [ha2] at a3 hab2 hfr
          obtain ⟨ab2, ab3⟩ := hab2
          clear ha2
          by_cases hng : a2 < 0
          · have t2 : decide (a2 < 0) = true := decide_eq_true hng
            have HQ2 := Lib.hid (HNX.out true (by rw [hfr, t2]; rfl) rfl)
            clear hng hfr
            go_wp2_with fail
            go_quiet (fail)
            go_wp2_with fail
            go_roundw
            case rel => exact ⟨j + 1, true, by go_num, rfl, by omega, (Lib.hid (by first | exact HQ2.out | simpa using HQ2.out)), Lib.hid (below_drewN hBj.out _)⟩
            case measure => (simp [intOf] <;> omega)
          have t2 : decide (a2 < 0) = false := decide_eq_false hng
          obtain ⟨b5, o5, e5, _, v0, v1, v2, v3⟩ := SlL_at RA.out HN.out hlj
          cases e5
          have hzj := HZ.out j hlj
          obtain ⟨v, hv⟩ : ∃ v, xs.getD j lf0 = v := ⟨_, rfl⟩
          rw [hv] at v0 v1 v2 v3 hzj hfr
          rw [HY.out] at hfr
          obtain ⟨zj1, zj2⟩ := hzj
          have v0 := kpb hBj.out hbk v0
          have v1 := kpb hBj.out hbk v1
          have v2 := kpb hBj.out hbk v2
          have v3 := kpb hBj.out hbk v3
          have u0 := kpb hBj.out hbk HCK.out.1
          have u1 := kpb hBj.out hbk HCK.out.2.1
          have u2 := kpb hBj.out hbk HCK.out.2.2.1
          have u3 := kpb hBj.out hbk HCK.out.2.2.2
          have hz15 : wj.drew.cell? ⟨g, j, none⟩ = some (.int .i64 a2) ∧ wj.drew.cell? ⟨bk, ok + k * 4, none⟩ = some (.string y.1) ∧ wj.drew.cell? ⟨bk, ok + k * 4 + 1, none⟩ = some (.int .i64 y.2.1) ∧ wj.drew.cell? ⟨bk, ok + k * 4 + 2, none⟩ = some (.int .i64 y.2.2.1) ∧ wj.drew.cell? ⟨bk, ok + k * 4 + 3, none⟩ = some (.int .i64 y.2.2.2) ∧ wj.drew.cell? ⟨bk, ok + j * 4, none⟩ = some (.string v.1) ∧ wj.drew.cell? ⟨bk, ok + j * 4 + 1, none⟩ = some (.int .i64 v.2.1) ∧ wj.drew.cell? ⟨bk, ok + j * 4 + 2, none⟩ = some (.int .i64 v.2.2.1) ∧ wj.drew.cell? ⟨bk, ok + j * 4 + 3, none⟩ = some (.int .i64 v.2.2.2) ∧ Below wj.heap.size wj wj.drew := ⟨a3, u0, u1, u2, u3, v0, v1, v2, v3, (Below.refl _ _).drew⟩
          obtain ⟨tt, htt⟩ : ∃ tt, clB y v 0 a2 = tt := ⟨_, rfl⟩
          have CC := Lib.hid (fun w => CL.out y v 0 a2 w zk1 zk2 zj1 zj2 (by omega) (by omega) (by omega) (by omega))
          rw [htt] at CC
          rw [htt, t2, Bool.false_or] at hfr
          have HQ2 := Lib.hid (HNX.out (!tt) hfr rfl)
          clear htt hfr hv hng a3 u0 u1 u2 u3 v0 v1 v2 v3
          cases tt
          · go_wp2_with fail
            refine Rk.begin (S := fun wS => wS.cell? ⟨g, j, none⟩ = some (.int .i64 a2) ∧ wS.cell? ⟨bk, ok + k * 4, none⟩ = some (.string y.1) ∧ wS.cell? ⟨bk, ok + k * 4 + 1, none⟩ = some (.int .i64 y.2.1) ∧ wS.cell? ⟨bk, ok + k * 4 + 2, none⟩ = some (.int .i64 y.2.2.1) ∧ wS.cell? ⟨bk, ok + k * 4 + 3, none⟩ = some (.int .i64 y.2.2.2) ∧ wS.cell? ⟨bk, ok + j * 4, none⟩ = some (.string v.1) ∧ wS.cell? ⟨bk, ok + j * 4 + 1, none⟩ = some (.int .i64 v.2.1) ∧ wS.cell? ⟨bk, ok + j * 4 + 2, none⟩ = some (.int .i64 v.2.2.1) ∧ wS.cell? ⟨bk, ok + j * 4 + 3, none⟩ = some (.int .i64 v.2.2.2) ∧ Below wj.heap.size wj wS) 21 (by kernel_rfl) hz15 (fun hHeld => ?_)
            refine Rk.takeP (i := 0) (v := ?_) rfl (by kernel_rfl) (by kernel_rfl) (by kernel_rfl) (by kernel_rfl) (fun _ _ _ h => h) (Or.inl ⟨by kernel_rfl, ?_⟩) (by assumption) ?_
            rotate_left
            · ((intro w hSw; go_simp) <;> with_reducible rfl)
            try simp only [Act.put, List.setIfInBounds_toArray, List.set_cons_zero, List.set_cons_succ]
            refine Rk.takeP (i := 1) (v := ?_) rfl (by kernel_rfl) (by kernel_rfl) (by kernel_rfl) (by kernel_rfl) (fun _ _ _ h => h) (Or.inl ⟨by kernel_rfl, ?_⟩) (by assumption) ?_
            rotate_left
            · ((intro w hSw; go_simp) <;> with_reducible rfl)
            try simp only [Act.put, List.setIfInBounds_toArray, List.set_cons_zero, List.set_cons_succ]
            refine Rk.takeP (i := 2) (v := ?_) rfl (by kernel_rfl) (by kernel_rfl) (by kernel_rfl) (by kernel_rfl) (fun _ _ _ h => h) (Or.inl ⟨by kernel_rfl, ?_⟩) (by assumption) ?_
            rotate_left
            · ((intro w hSw; go_simp) <;> with_reducible rfl)
            try simp only [Act.put, List.setIfInBounds_toArray, List.set_cons_zero, List.set_cons_succ]
            refine Rk.takeP (i := 3) (v := ?_) rfl (by kernel_rfl) (by kernel_rfl) (by kernel_rfl) (by kernel_rfl) (fun _ _ _ h => h) (Or.inl ⟨by kernel_rfl, ?_⟩) (by assumption) ?_
            rotate_left
            · ((intro w hSw; go_simp) <;> with_reducible rfl)
            try simp only [Act.put, List.setIfInBounds_toArray, List.set_cons_zero, List.set_cons_succ]
            refine Rk.takeP (i := 4) (v := ?_) rfl (by kernel_rfl) (by kernel_rfl) (by kernel_rfl) (by kernel_rfl) (fun _ _ _ h => h) (Or.inl ⟨by kernel_rfl, ?_⟩) (by assumption) ?_
            rotate_left
            · ((intro w hSw; go_simp) <;> with_reducible rfl)
            try simp only [Act.put, List.setIfInBounds_toArray, List.set_cons_zero, List.set_cons_succ]
            refine Rk.take [6, 7, 21] (i := 5) (v := ?_) rfl (by kernel_rfl) (by kernel_rfl) (by kernel_rfl) (by kernel_rfl) (by kernel_rfl) (fun _ _ _ h => h) (Or.inl ⟨by kernel_rfl, ?_⟩) (by assumption) ?_
            rotate_left
            · ((intro w hSw; (try dsimp only at hSw); go_simp) <;> with_reducible rfl)
            try simp only [Act.put, List.setIfInBounds_toArray, List.set_cons_zero, List.set_cons_succ]
            refine Rk.takeP (i := 6) (v := ?_) rfl (by kernel_rfl) (by kernel_rfl) (by kernel_rfl) (by kernel_rfl) (fun _ _ _ h => h) (Or.inl ⟨by kernel_rfl, ?_⟩) (by assumption) ?_
            rotate_left
            · ((intro w hSw; go_simp) <;> with_reducible rfl)
            try simp only [Act.put, List.setIfInBounds_toArray, List.set_cons_zero, List.set_cons_succ]
            refine Rk.takeP (i := 7) (v := ?_) rfl (by kernel_rfl) (by kernel_rfl) (by kernel_rfl) (by kernel_rfl) (fun _ _ _ h => h) (Or.inl ⟨by kernel_rfl, ?_⟩) (by assumption) ?_
            rotate_left
            · ((intro w hSw; go_simp) <;> with_reducible rfl)
            try simp only [Act.put, List.setIfInBounds_toArray, List.set_cons_zero, List.set_cons_succ]
            refine Rk.takeP (i := 8) (v := ?_) rfl (by kernel_rfl) (by kernel_rfl) (by kernel_rfl) (by kernel_rfl) (fun _ _ _ h => h) (Or.inl ⟨by kernel_rfl, ?_⟩) (by assumption) ?_
            rotate_left
            · ((intro w hSw; go_simp) <;> with_reducible rfl)
            try simp only [Act.put, List.setIfInBounds_toArray, List.set_cons_zero, List.set_cons_succ]
            refine Rk.takeP (i := 9) (v := ?_) rfl (by kernel_rfl) (by kernel_rfl) (by kernel_rfl) (by kernel_rfl) (fun _ _ _ h => h) (Or.inl ⟨by kernel_rfl, ?_⟩) (by assumption) ?_
            rotate_left
            · ((intro w hSw; go_simp) <;> with_reducible rfl)
            try simp only [Act.put, List.setIfInBounds_toArray, List.set_cons_zero, List.set_cons_succ]
            refine Rk.takeP (i := 10) (v := ?_) rfl (by kernel_rfl) (by kernel_rfl) (by kernel_rfl) (by kernel_rfl) (fun _ _ _ h => h) (Or.inl ⟨by kernel_rfl, ?_⟩) (by assumption) ?_
            rotate_left
            · ((intro w hSw; go_simp) <;> with_reducible rfl)
            try simp only [Act.put, List.setIfInBounds_toArray, List.set_cons_zero, List.set_cons_succ]
            refine Rk.take [21] (i := 11) (v := ?_) rfl (by kernel_rfl) (by kernel_rfl) (by kernel_rfl) (by kernel_rfl) (by kernel_rfl) (fun _ _ _ h => h) (Or.inl ⟨by kernel_rfl, ?_⟩) (by assumption) ?_
            rotate_left
            · ((intro w hSw; (try dsimp only at hSw); go_simp) <;> with_reducible rfl)
            try simp only [Act.put, List.setIfInBounds_toArray, List.set_cons_zero, List.set_cons_succ]
            refine Rk.takeP (i := 12) (v := ?_) rfl (by kernel_rfl) (by kernel_rfl) (by kernel_rfl) (by kernel_rfl) (fun _ _ _ h => h) (Or.inl ⟨by kernel_rfl, ?_⟩) (by assumption) ?_
            rotate_left
            · ((intro w hSw; go_simp) <;> with_reducible rfl)
            try simp only [Act.put, List.setIfInBounds_toArray, List.set_cons_zero, List.set_cons_succ]
            refine Rk.takeP (i := 13) (v := ?_) rfl (by kernel_rfl) (by kernel_rfl) (by kernel_rfl) (by kernel_rfl) (fun _ _ _ h => h) (Or.inl ⟨by kernel_rfl, ?_⟩) (by assumption) ?_
            rotate_left
            · ((intro w hSw; go_simp) <;> with_reducible rfl)
            try simp only [Act.put, List.setIfInBounds_toArray, List.set_cons_zero, List.set_cons_succ]
            refine Rk.takeP (i := 14) (v := ?_) rfl (by kernel_rfl) (by kernel_rfl) (by kernel_rfl) (by kernel_rfl) (fun _ _ _ h => h) (Or.inl ⟨by kernel_rfl, ?_⟩) (by assumption) ?_
            rotate_left
            · ((intro w hSw; go_simp) <;> with_reducible rfl)
            try simp only [Act.put, List.setIfInBounds_toArray, List.set_cons_zero, List.set_cons_succ]
            refine Rk.take [21] (i := 15) (v := ?_) rfl (by kernel_rfl) (by kernel_rfl) (by kernel_rfl) (by kernel_rfl) (by kernel_rfl) (fun _ _ _ h => h) (Or.inl ⟨by kernel_rfl, ?_⟩) (by assumption) ?_
            rotate_left
            · ((intro w hSw; (try dsimp only at hSw); go_simp) <;> with_reducible rfl)
            try simp only [Act.put, List.setIfInBounds_toArray, List.set_cons_zero, List.set_cons_succ]
            refine Rk.takeP (i := 16) (v := ?_) rfl (by kernel_rfl) (by kernel_rfl) (by kernel_rfl) (by kernel_rfl) (fun _ _ _ h => h) (Or.inl ⟨by kernel_rfl, ?_⟩) (by assumption) ?_
            rotate_left
            · ((intro w hSw; go_simp) <;> with_reducible rfl)
            try simp only [Act.put, List.setIfInBounds_toArray, List.set_cons_zero, List.set_cons_succ]
            refine Rk.takeP (i := 17) (v := ?_) rfl (by kernel_rfl) (by kernel_rfl) (by kernel_rfl) (by kernel_rfl) (fun _ _ _ h => h) (Or.inl ⟨by kernel_rfl, ?_⟩) (by assumption) ?_
            rotate_left
            · ((intro w hSw; go_simp) <;> with_reducible rfl)
            try simp only [Act.put, List.setIfInBounds_toArray, List.set_cons_zero, List.set_cons_succ]
            refine Rk.takeP (i := 18) (v := ?_) rfl (by kernel_rfl) (by kernel_rfl) (by kernel_rfl) (by kernel_rfl) (fun _ _ _ h => h) (Or.inl ⟨by kernel_rfl, ?_⟩) (by assumption) ?_
            rotate_left
            · ((intro w hSw; go_simp) <;> with_reducible rfl)
            try simp only [Act.put, List.setIfInBounds_toArray, List.set_cons_zero, List.set_cons_succ]
            refine Rk.takeP (i := 19) (v := ?_) rfl (by kernel_rfl) (by kernel_rfl) (by kernel_rfl) (by kernel_rfl) (fun _ _ _ h => h) (Or.inl ⟨by kernel_rfl, ?_⟩) (by assumption) ?_
            rotate_left
            · ((intro w hSw; go_simp) <;> with_reducible rfl)
            try simp only [Act.put, List.setIfInBounds_toArray, List.set_cons_zero, List.set_cons_succ]
            refine Rk.take [21] (i := 20) (v := ?_) rfl (by kernel_rfl) (by kernel_rfl) (by kernel_rfl) (by kernel_rfl) (by kernel_rfl) (fun _ _ _ h => h) (Or.inl ⟨by kernel_rfl, ?_⟩) (by assumption) ?_
            rotate_left
            · ((intro w hSw; (try dsimp only at hSw); go_simp) <;> with_reducible rfl)
            try simp only [Act.put, List.setIfInBounds_toArray, List.set_cons_zero, List.set_cons_succ]
            refine Rk.tail [21, 22, 23, 24, 25] [_, _, _, _, _] (by kernel_rfl) (by kernel_rfl) rfl (by decide) ?_
            go_wp2_with (go_at_call 25; (with_reducible refine (CC.out _).mono ?_); rintro e u ⟨rfl, hb⟩; have BU := Lib.hid (hBj.out.trans ((hHeld.2.2.2.2.2.2.2.2.2.trans hb).mono hBj.out.size)); clear hb)
            go_roundw
            case rel => exact ⟨j + 1, true, by go_num, rfl, by omega, (Lib.hid (by first | exact HQ2.out | simpa using HQ2.out)), BU⟩
            case measure => (simp [intOf] <;> omega)
          · go_wp2_with fail
            refine Rk.begin (S := fun wS => wS.cell? ⟨g, j, none⟩ = some (.int .i64 a2) ∧ wS.cell? ⟨bk, ok + k * 4, none⟩ = some (.string y.1) ∧ wS.cell? ⟨bk, ok + k * 4 + 1, none⟩ = some (.int .i64 y.2.1) ∧ wS.cell? ⟨bk, ok + k * 4 + 2, none⟩ = some (.int .i64 y.2.2.1) ∧ wS.cell? ⟨bk, ok + k * 4 + 3, none⟩ = some (.int .i64 y.2.2.2) ∧ wS.cell? ⟨bk, ok + j * 4, none⟩ = some (.string v.1) ∧ wS.cell? ⟨bk, ok + j * 4 + 1, none⟩ = some (.int .i64 v.2.1) ∧ wS.cell? ⟨bk, ok + j * 4 + 2, none⟩ = some (.int .i64 v.2.2.1) ∧ wS.cell? ⟨bk, ok + j * 4 + 3, none⟩ = some (.int .i64 v.2.2.2) ∧ Below wj.heap.size wj wS) 21 (by kernel_rfl) hz15 (fun hHeld => ?_)
            refine Rk.takeP (i := 0) (v := ?_) rfl (by kernel_rfl) (by kernel_rfl) (by kernel_rfl) (by kernel_rfl) (fun _ _ _ h => h) (Or.inl ⟨by kernel_rfl, ?_⟩) (by assumption) ?_
            rotate_left
            · ((intro w hSw; go_simp) <;> with_reducible rfl)
            try simp only [Act.put, List.setIfInBounds_toArray, List.set_cons_zero, List.set_cons_succ]
            refine Rk.takeP (i := 1) (v := ?_) rfl (by kernel_rfl) (by kernel_rfl) (by kernel_rfl) (by kernel_rfl) (fun _ _ _ h => h) (Or.inl ⟨by kernel_rfl, ?_⟩) (by assumption) ?_
            rotate_left
            · ((intro w hSw; go_simp) <;> with_reducible rfl)
            try simp only [Act.put, List.setIfInBounds_toArray, List.set_cons_zero, List.set_cons_succ]
            refine Rk.takeP (i := 2) (v := ?_) rfl (by kernel_rfl) (by kernel_rfl) (by kernel_rfl) (by kernel_rfl) (fun _ _ _ h => h) (Or.inl ⟨by kernel_rfl, ?_⟩) (by assumption) ?_
            rotate_left
            · ((intro w hSw; go_simp) <;> with_reducible rfl)
            try simp only [Act.put, List.setIfInBounds_toArray, List.set_cons_zero, List.set_cons_succ]
            refine Rk.takeP (i := 3) (v := ?_) rfl (by kernel_rfl) (by kernel_rfl) (by kernel_rfl) (by kernel_rfl) (fun _ _ _ h => h) (Or.inl ⟨by kernel_rfl, ?_⟩) (by assumption) ?_
            rotate_left
            · ((intro w hSw; go_simp) <;> with_reducible rfl)
            try simp only [Act.put, List.setIfInBounds_toArray, List.set_cons_zero, List.set_cons_succ]
            refine Rk.takeP (i := 4) (v := ?_) rfl (by kernel_rfl) (by kernel_rfl) (by kernel_rfl) (by kernel_rfl) (fun _ _ _ h => h) (Or.inl ⟨by kernel_rfl, ?_⟩) (by assumption) ?_
            rotate_left
            · ((intro w hSw; go_simp) <;> with_reducible rfl)
            try simp only [Act.put, List.setIfInBounds_toArray, List.set_cons_zero, List.set_cons_succ]
            refine Rk.take [6, 7, 21] (i := 5) (v := ?_) rfl (by kernel_rfl) (by kernel_rfl) (by kernel_rfl) (by kernel_rfl) (by kernel_rfl) (fun _ _ _ h => h) (Or.inl ⟨by kernel_rfl, ?_⟩) (by assumption) ?_
            rotate_left
            · ((intro w hSw; (try dsimp only at hSw); go_simp) <;> with_reducible rfl)
            try simp only [Act.put, List.setIfInBounds_toArray, List.set_cons_zero, List.set_cons_succ]
            refine Rk.takeP (i := 6) (v := ?_) rfl (by kernel_rfl) (by kernel_rfl) (by kernel_rfl) (by kernel_rfl) (fun _ _ _ h => h) (Or.inl ⟨by kernel_rfl, ?_⟩) (by assumption) ?_
            rotate_left
            · ((intro w hSw; go_simp) <;> with_reducible rfl)
            try simp only [Act.put, List.setIfInBounds_toArray, List.set_cons_zero, List.set_cons_succ]
            refine Rk.takeP (i := 7) (v := ?_) rfl (by kernel_rfl) (by kernel_rfl) (by kernel_rfl) (by kernel_rfl) (fun _ _ _ h => h) (Or.inl ⟨by kernel_rfl, ?_⟩) (by assumption) ?_
            rotate_left
            · ((intro w hSw; go_simp) <;> with_reducible rfl)
            try simp only [Act.put, List.setIfInBounds_toArray, List.set_cons_zero, List.set_cons_succ]
            refine Rk.takeP (i := 8) (v := ?_) rfl (by kernel_rfl) (by kernel_rfl) (by kernel_rfl) (by kernel_rfl) (fun _ _ _ h => h) (Or.inl ⟨by kernel_rfl, ?_⟩) (by assumption) ?_
            rotate_left
            · ((intro w hSw; go_simp) <;> with_reducible rfl)
            try simp only [Act.put, List.setIfInBounds_toArray, List.set_cons_zero, List.set_cons_succ]
            refine Rk.takeP (i := 9) (v := ?_) rfl (by kernel_rfl) (by kernel_rfl) (by kernel_rfl) (by kernel_rfl) (fun _ _ _ h => h) (Or.inl ⟨by kernel_rfl, ?_⟩) (by assumption) ?_
            rotate_left
            · ((intro w hSw; go_simp) <;> with_reducible rfl)
            try simp only [Act.put, List.setIfInBounds_toArray, List.set_cons_zero, List.set_cons_succ]
            refine Rk.takeP (i := 10) (v := ?_) rfl (by kernel_rfl) (by kernel_rfl) (by kernel_rfl) (by kernel_rfl) (fun _ _ _ h => h) (Or.inl ⟨by kernel_rfl, ?_⟩) (by assumption) ?_
            rotate_left
            · ((intro w hSw; go_simp) <;> with_reducible rfl)
            try simp only [Act.put, List.setIfInBounds_toArray, List.set_cons_zero, List.set_cons_succ]
            refine Rk.take [21] (i := 11) (v := ?_) rfl (by kernel_rfl) (by kernel_rfl) (by kernel_rfl) (by kernel_rfl) (by kernel_rfl) (fun _ _ _ h => h) (Or.inl ⟨by kernel_rfl, ?_⟩) (by assumption) ?_
            rotate_left
            · ((intro w hSw; (try dsimp only at hSw); go_simp) <;> with_reducible rfl)
            try simp only [Act.put, List.setIfInBounds_toArray, List.set_cons_zero, List.set_cons_succ]
            refine Rk.takeP (i := 12) (v := ?_) rfl (by kernel_rfl) (by kernel_rfl) (by kernel_rfl) (by kernel_rfl) (fun _ _ _ h => h) (Or.inl ⟨by kernel_rfl, ?_⟩) (by assumption) ?_
            rotate_left
            · ((intro w hSw; go_simp) <;> with_reducible rfl)
            try simp only [Act.put, List.setIfInBounds_toArray, List.set_cons_zero, List.set_cons_succ]
            refine Rk.takeP (i := 13) (v := ?_) rfl (by kernel_rfl) (by kernel_rfl) (by kernel_rfl) (by kernel_rfl) (fun _ _ _ h => h) (Or.inl ⟨by kernel_rfl, ?_⟩) (by assumption) ?_
            rotate_left
            · ((intro w hSw; go_simp) <;> with_reducible rfl)
            try simp only [Act.put, List.setIfInBounds_toArray, List.set_cons_zero, List.set_cons_succ]
            refine Rk.takeP (i := 14) (v := ?_) rfl (by kernel_rfl) (by kernel_rfl) (by kernel_rfl) (by kernel_rfl) (fun _ _ _ h => h) (Or.inl ⟨by kernel_rfl, ?_⟩) (by assumption) ?_
            rotate_left
            · ((intro w hSw; go_simp) <;> with_reducible rfl)
            try simp only [Act.put, List.setIfInBounds_toArray, List.set_cons_zero, List.set_cons_succ]
            refine Rk.take [21] (i := 15) (v := ?_) rfl (by kernel_rfl) (by kernel_rfl) (by kernel_rfl) (by kernel_rfl) (by kernel_rfl) (fun _ _ _ h => h) (Or.inl ⟨by kernel_rfl, ?_⟩) (by assumption) ?_
            rotate_left
            · ((intro w hSw; (try dsimp only at hSw); go_simp) <;> with_reducible rfl)
            try simp only [Act.put, List.setIfInBounds_toArray, List.set_cons_zero, List.set_cons_succ]
            refine Rk.takeP (i := 16) (v := ?_) rfl (by kernel_rfl) (by kernel_rfl) (by kernel_rfl) (by kernel_rfl) (fun _ _ _ h => h) (Or.inl ⟨by kernel_rfl, ?_⟩) (by assumption) ?_
            rotate_left
            · ((intro w hSw; go_simp) <;> with_reducible rfl)
            try simp only [Act.put, List.setIfInBounds_toArray, List.set_cons_zero, List.set_cons_succ]
            refine Rk.takeP (i := 17) (v := ?_) rfl (by kernel_rfl) (by kernel_rfl) (by kernel_rfl) (by kernel_rfl) (fun _ _ _ h => h) (Or.inl ⟨by kernel_rfl, ?_⟩) (by assumption) ?_
            rotate_left
            · ((intro w hSw; go_simp) <;> with_reducible rfl)
            try simp only [Act.put, List.setIfInBounds_toArray, List.set_cons_zero, List.set_cons_succ]
            refine Rk.takeP (i := 18) (v := ?_) rfl (by kernel_rfl) (by kernel_rfl) (by kernel_rfl) (by kernel_rfl) (fun _ _ _ h => h) (Or.inl ⟨by kernel_rfl, ?_⟩) (by assumption) ?_
            rotate_left
            · ((intro w hSw; go_simp) <;> with_reducible rfl)
            try simp only [Act.put, List.setIfInBounds_toArray, List.set_cons_zero, List.set_cons_succ]
            refine Rk.takeP (i := 19) (v := ?_) rfl (by kernel_rfl) (by kernel_rfl) (by kernel_rfl) (by kernel_rfl) (fun _ _ _ h => h) (Or.inl ⟨by kernel_rfl, ?_⟩) (by assumption) ?_
            rotate_left
            · ((intro w hSw; go_simp) <;> with_reducible rfl)
            try simp only [Act.put, List.setIfInBounds_toArray, List.set_cons_zero, List.set_cons_succ]
            refine Rk.take [21] (i := 20) (v := ?_) rfl (by kernel_rfl) (by kernel_rfl) (by kernel_rfl) (by kernel_rfl) (by kernel_rfl) (fun _ _ _ h => h) (Or.inl ⟨by kernel_rfl, ?_⟩) (by assumption) ?_
            rotate_left
            · ((intro w hSw; (try dsimp only at hSw); go_simp) <;> with_reducible rfl)
            try simp only [Act.put, List.setIfInBounds_toArray, List.set_cons_zero, List.set_cons_succ]
            refine Rk.tail [21, 22, 23, 24, 25] [_, _, _, _, _] (by kernel_rfl) (by kernel_rfl) rfl (by decide) ?_
            go_wp2_with (go_at_call 25; (with_reducible refine (CC.out _).mono ?_); rintro e u ⟨rfl, hb⟩; have BU := Lib.hid (hBj.out.trans ((hHeld.2.2.2.2.2.2.2.2.2.trans hb).mono hBj.out.size)); clear hb)
            go_roundw
            case rel => exact ⟨j + 1, false, by go_num, rfl, by omega, (Lib.hid (by first | exact HQ2.out | simpa using HQ2.out)), BU⟩
            case measure => (simp [intOf] <;> omega)
      · by_cases hbx : b ≤ 0
        · have HPN : Hid (PlI xs A k (cnd xs A (0 + 1)) b true) := Lib.hid (by rw [HCN.out]; exact HP.out.skip (.inr (.inl ⟨rfl, hbx⟩)))
          go_wp2_with fail
          go_roundw
          case rel => exact ⟨0 + 1, b, true, (by first | (rw [ti]; done) | rfl | (go_num; done) | (simp; done)), rfl, rfl, by omega, b0, b1, HPN, hBW⟩
          case measure => (simp [intOf] <;> omega)
        · have hbx2 : 0 < b := by omega
          go_wp2_with fail
          go_loopw [12, 13] (fun fr jv wr => ∃ (j : Nat) (q : Bool), jv = .int .i64 (j : Int) ∧ fr = .bool q ∧ j ≤ n ∧ Hid (q = true ↔ ∀ j', j' < j → frB xs A k 0 j' = true) ∧ Hid (Below w.heap.size w wr)) (fun _ jv _ => n - (intOf jv).toNat)
          case atStart => exact ⟨0, true, rfl, rfl, Nat.zero_le _, Lib.hid ⟨fun _ j' h => absurd h (Nat.not_lt_zero _), fun _ => rfl⟩, hBW⟩
          case round =>
            obtain ⟨j, q, rfl, rfl, hj, HQ, hBj⟩ := hrel
            obtain ⟨wj, hwj⟩ : ∃ wj, wj = wr := ⟨_, rfl⟩
            subst hwj
            by_cases hlj : j < n
            case neg =>
              obtain rfl : j = n := by omega
              have j1 : ¬ (j : Int) < j := by omega
              cases q
              case false =>
                have HPN : Hid (PlI xs A k (cnd xs A (0 + 1)) b true) := Lib.hid (by rw [HCN.out]; exact HP.out.skip (.inr (.inr (fun h => by have h2 := HQ.out.2 (fun j' h' => h j' (by rw [HA.out.1]; exact h')); cases h2))))
                go_wp2_with fail
                go_roundw
                case rel => exact ⟨0 + 1, b, true, (by first | (rw [ti]; done) | rfl | (go_num; done) | (simp; done)), rfl, rfl, by omega, b0, b1, HPN, hBj⟩
                case measure => (simp [intOf] <;> omega)
              case true =>
                have HPN : Hid (PlI xs A k (cnd xs A (0 + 1)) 0 true) := Lib.hid (by rw [HCN.out]; exact HP.out.take (by rw [HY.out]; omega) (fun h => by omega) (fun j' h' => HQ.out.1 rfl j' (by rw [← HA.out.1]; exact h')))
                go_wp2_with fail
                go_roundw
                case rel => exact ⟨0 + 1, 0, true, (by first | (rw [ti]; done) | rfl | (go_num; done) | (simp; done)), rfl, rfl, by omega, by omega, by omega, HPN, hBj⟩
                case measure => (simp [intOf] <;> omega)
            have j0 : (0 : Int) ≤ j := by omega
            have j1 : (j : Int) < n := by omega
            have hNX : ∀ r : Bool, frB xs A k 0 j = r → q = true → (r = true ↔ ∀ j', j' < j + 1 → frB xs A k 0 j' = true) := fun r hr hq => ⟨fun h j' h' => by
                rcases Nat.lt_or_eq_of_le (Nat.le_of_lt_succ h') with h1 | rfl
                · exact HQ.out.1 hq j' h1
                · rw [hr]; exact h, fun h => by rw [← hr]; exact h j (Nat.lt_succ_self _)⟩
            have HNX := Lib.hid hNX
            clear hNX
            cases q
            case false =>
              have HQ2 : Hid (false = true ↔ ∀ j', j' < j + 1 → frB xs A k 0 j' = true) := Lib.hid ⟨fun h => (by cases h), fun h => by have h2 := HQ.out.2 (fun j' h' => h j' (by omega)); cases h2⟩
              go_wp2_with fail
              go_quiet (fail)
              go_wp2_with fail
              go_roundw
              case rel => exact ⟨j + 1, false, by go_num, rfl, by omega, (Lib.hid (by first | exact HQ2.out | simpa using HQ2.out)), Lib.hid (below_drewN hBj.out _)⟩
              case measure => (simp [intOf] <;> omega)
            have a3 := kpb hBj.out hgb (RK.out j hlj)
            have hab2 := HA.out.2 j hlj
            have hfr : frB xs A k 0 j = (decide (A.getD j e50 < 0) || !clB (xs.getD k lf0) (xs.getD j lf0) 0 (A.getD j e50)) := rfl
            obtain ⟨a2, ha2⟩ : ∃ a2, A.getD j e50 = a2 := ⟨_, rfl⟩
            rw [ha2] at a3 hab2 hfr
            obtain ⟨ab2, ab3⟩ := hab2
            clear ha2
            by_cases hng : a2 < 0
            · have t2 : decide (a2 < 0) = true := decide_eq_true hng
              have HQ2 := Lib.hid (HNX.out true (by rw [hfr, t2]; rfl) rfl)
              clear hng hfr
              go_wp2_with fail
              go_quiet (fail)
              go_wp2_with fail
              go_roundw
              case rel => exact ⟨j + 1, true, by go_num, rfl, by omega, (Lib.hid (by first | exact HQ2.out | simpa using HQ2.out)), Lib.hid (below_drewN hBj.out _)⟩
              case measure => (simp [intOf] <;> omega)
            have t2 : decide (a2 < 0) = false := decide_eq_false hng
            obtain ⟨b5, o5, e5, _, v0, v1, v2, v3⟩ := SlL_at RA.out HN.out hlj
            cases e5
            have hzj := HZ.out j hlj
            obtain ⟨v, hv⟩ : ∃ v, xs.getD j lf0 = v := ⟨_, rfl⟩
            rw [hv] at v0 v1 v2 v3 hzj hfr
            rw [HY.out] at hfr
            obtain ⟨zj1, zj2⟩ := hzj
            have v0 := kpb hBj.out hbk v0
            have v1 := kpb hBj.out hbk v1
            have v2 := kpb hBj.out hbk v2
            have v3 := kpb hBj.out hbk v3
            have u0 := kpb hBj.out hbk HCK.out.1
            have u1 := kpb hBj.out hbk HCK.out.2.1
            have u2 := kpb hBj.out hbk HCK.out.2.2.1
            have u3 := kpb hBj.out hbk HCK.out.2.2.2
            have hz15 : wj.drew.cell? ⟨g, j, none⟩ = some (.int .i64 a2) ∧ wj.drew.cell? ⟨bk, ok + k * 4, none⟩ = some (.string y.1) ∧ wj.drew.cell? ⟨bk, ok + k * 4 + 1, none⟩ = some (.int .i64 y.2.1) ∧ wj.drew.cell? ⟨bk, ok + k * 4 + 2, none⟩ = some (.int .i64 y.2.2.1) ∧ wj.drew.cell? ⟨bk, ok + k * 4 + 3, none⟩ = some (.int .i64 y.2.2.2) ∧ wj.drew.cell? ⟨bk, ok + j * 4, none⟩ = some (.string v.1) ∧ wj.drew.cell? ⟨bk, ok + j * 4 + 1, none⟩ = some (.int .i64 v.2.1) ∧ wj.drew.cell? ⟨bk, ok + j * 4 + 2, none⟩ = some (.int .i64 v.2.2.1) ∧ wj.drew.cell? ⟨bk, ok + j * 4 + 3, none⟩ = some (.int .i64 v.2.2.2) ∧ Below wj.heap.size wj wj.drew := ⟨a3, u0, u1, u2, u3, v0, v1, v2, v3, (Below.refl _ _).drew⟩
            obtain ⟨tt, htt⟩ : ∃ tt, clB y v 0 a2 = tt := ⟨_, rfl⟩
            have CC := Lib.hid (fun w => CL.out y v 0 a2 w zk1 zk2 zj1 zj2 (by omega) (by omega) (by omega) (by omega))
            rw [htt] at CC
            rw [htt, t2, Bool.false_or] at hfr
            have HQ2 := Lib.hid (HNX.out (!tt) hfr rfl)
            clear htt hfr hv hng a3 u0 u1 u2 u3 v0 v1 v2 v3
            cases tt
            · go_wp2_with fail
              refine Rk.begin (S := fun wS => wS.cell? ⟨g, j, none⟩ = some (.int .i64 a2) ∧ wS.cell? ⟨bk, ok + k * 4, none⟩ = some (.string y.1) ∧ wS.cell? ⟨bk, ok + k * 4 + 1, none⟩ = some (.int .i64 y.2.1) ∧ wS.cell? ⟨bk, ok + k * 4 + 2, none⟩ = some (.int .i64 y.2.2.1) ∧ wS.cell? ⟨bk, ok + k * 4 + 3, none⟩ = some (.int .i64 y.2.2.2) ∧ wS.cell? ⟨bk, ok + j * 4, none⟩ = some (.string v.1) ∧ wS.cell? ⟨bk, ok + j * 4 + 1, none⟩ = some (.int .i64 v.2.1) ∧ wS.cell? ⟨bk, ok + j * 4 + 2, none⟩ = some (.int .i64 v.2.2.1) ∧ wS.cell? ⟨bk, ok + j * 4 + 3, none⟩ = some (.int .i64 v.2.2.2) ∧ Below wj.heap.size wj wS) 21 (by kernel_rfl) hz15 (fun hHeld => ?_)
              refine Rk.takeP (i := 0) (v := ?_) rfl (by kernel_rfl) (by kernel_rfl) (by kernel_rfl) (by kernel_rfl) (fun _ _ _ h => h) (Or.inl ⟨by kernel_rfl, ?_⟩) (by assumption) ?_
              rotate_left
              · ((intro w hSw; go_simp) <;> with_reducible rfl)
              try simp only [Act.put, List.setIfInBounds_toArray, List.set_cons_zero, List.set_cons_succ]
              refine Rk.takeP (i := 1) (v := ?_) rfl (by kernel_rfl) (by kernel_rfl) (by kernel_rfl) (by kernel_rfl) (fun _ _ _ h => h) (Or.inl ⟨by kernel_rfl, ?_⟩) (by assumption) ?_
              rotate_left
              · ((intro w hSw; go_simp) <;> with_reducible rfl)
              try simp only [Act.put, List.setIfInBounds_toArray, List.set_cons_zero, List.set_cons_succ]
              refine Rk.takeP (i := 2) (v := ?_) rfl (by kernel_rfl) (by kernel_rfl) (by kernel_rfl) (by kernel_rfl) (fun _ _ _ h => h) (Or.inl ⟨by kernel_rfl, ?_⟩) (by assumption) ?_
              rotate_left
              · ((intro w hSw; go_simp) <;> with_reducible rfl)
              try simp only [Act.put, List.setIfInBounds_toArray, List.set_cons_zero, List.set_cons_succ]
              refine Rk.takeP (i := 3) (v := ?_) rfl (by kernel_rfl) (by kernel_rfl) (by kernel_rfl) (by kernel_rfl) (fun _ _ _ h => h) (Or.inl ⟨by kernel_rfl, ?_⟩) (by assumption) ?_
              rotate_left
              · ((intro w hSw; go_simp) <;> with_reducible rfl)
              try simp only [Act.put, List.setIfInBounds_toArray, List.set_cons_zero, List.set_cons_succ]
              refine Rk.takeP (i := 4) (v := ?_) rfl (by kernel_rfl) (by kernel_rfl) (by kernel_rfl) (by kernel_rfl) (fun _ _ _ h => h) (Or.inl ⟨by kernel_rfl, ?_⟩) (by assumption) ?_
              rotate_left
              · ((intro w hSw; go_simp) <;> with_reducible rfl)
              try simp only [Act.put, List.setIfInBounds_toArray, List.set_cons_zero, List.set_cons_succ]
              refine Rk.take [6, 7, 21] (i := 5) (v := ?_) rfl (by kernel_rfl) (by kernel_rfl) (by kernel_rfl) (by kernel_rfl) (by kernel_rfl) (fun _ _ _ h => h) (Or.inl ⟨by kernel_rfl, ?_⟩) (by assumption) ?_
              rotate_left
              · ((intro w hSw; (try dsimp only at hSw); go_simp) <;> with_reducible rfl)
              try simp only [Act.put, List.setIfInBounds_toArray, List.set_cons_zero, List.set_cons_succ]
              refine Rk.takeP (i := 6) (v := ?_) rfl (by kernel_rfl) (by kernel_rfl) (by kernel_rfl) (by kernel_rfl) (fun _ _ _ h => h) (Or.inl ⟨by kernel_rfl, ?_⟩) (by assumption) ?_
              rotate_left
              · ((intro w hSw; go_simp) <;> with_reducible rfl)
              try simp only [Act.put, List.setIfInBounds_toArray, List.set_cons_zero, List.set_cons_succ]
              refine Rk.takeP (i := 7) (v := ?_) rfl (by kernel_rfl) (by kernel_rfl) (by kernel_rfl) (by kernel_rfl) (fun _ _ _ h => h) (Or.inl ⟨by kernel_rfl, ?_⟩) (by assumption) ?_
              rotate_left
              · ((intro w hSw; go_simp) <;> with_reducible rfl)
              try simp only [Act.put, List.setIfInBounds_toArray, List.set_cons_zero, List.set_cons_succ]
              refine Rk.takeP (i := 8) (v := ?_) rfl (by kernel_rfl) (by kernel_rfl) (by kernel_rfl) (by kernel_rfl) (fun _ _ _ h => h) (Or.inl ⟨by kernel_rfl, ?_⟩) (by assumption) ?_
              rotate_left
              · ((intro w hSw; go_simp) <;> with_reducible rfl)
              try simp only [Act.put, List.setIfInBounds_toArray, List.set_cons_zero, List.set_cons_succ]
              refine Rk.takeP (i := 9) (v := ?_) rfl (by kernel_rfl) (by kernel_rfl) (by kernel_rfl) (by kernel_rfl) (fun _ _ _ h => h) (Or.inl ⟨by kernel_rfl, ?_⟩) (by assumption) ?_
              rotate_left
              · ((intro w hSw; go_simp) <;> with_reducible rfl)
              try simp only [Act.put, List.setIfInBounds_toArray, List.set_cons_zero, List.set_cons_succ]
              refine Rk.takeP (i := 10) (v := ?_) rfl (by kernel_rfl) (by kernel_rfl) (by kernel_rfl) (by kernel_rfl) (fun _ _ _ h => h) (Or.inl ⟨by kernel_rfl, ?_⟩) (by assumption) ?_
              rotate_left
              · ((intro w hSw; go_simp) <;> with_reducible rfl)
              try simp only [Act.put, List.setIfInBounds_toArray, List.set_cons_zero, List.set_cons_succ]
              refine Rk.take [21] (i := 11) (v := ?_) rfl (by kernel_rfl) (by kernel_rfl) (by kernel_rfl) (by kernel_rfl) (by kernel_rfl) (fun _ _ _ h => h) (Or.inl ⟨by kernel_rfl, ?_⟩) (by assumption) ?_
              rotate_left
              · ((intro w hSw; (try dsimp only at hSw); go_simp) <;> with_reducible rfl)
              try simp only [Act.put, List.setIfInBounds_toArray, List.set_cons_zero, List.set_cons_succ]
              refine Rk.takeP (i := 12) (v := ?_) rfl (by kernel_rfl) (by kernel_rfl) (by kernel_rfl) (by kernel_rfl) (fun _ _ _ h => h) (Or.inl ⟨by kernel_rfl, ?_⟩) (by assumption) ?_
              rotate_left
              · ((intro w hSw; go_simp) <;> with_reducible rfl)
              try simp only [Act.put, List.setIfInBounds_toArray, List.set_cons_zero, List.set_cons_succ]
              refine Rk.takeP (i := 13) (v := ?_) rfl (by kernel_rfl) (by kernel_rfl) (by kernel_rfl) (by kernel_rfl) (fun _ _ _ h => h) (Or.inl ⟨by kernel_rfl, ?_⟩) (by assumption) ?_
              rotate_left
              · ((intro w hSw; go_simp) <;> with_reducible rfl)
              try simp only [Act.put, List.setIfInBounds_toArray, List.set_cons_zero, List.set_cons_succ]
              refine Rk.takeP (i := 14) (v := ?_) rfl (by kernel_rfl) (by kernel_rfl) (by kernel_rfl) (by kernel_rfl) (fun _ _ _ h => h) (Or.inl ⟨by kernel_rfl, ?_⟩) (by assumption) ?_
              rotate_left
              · ((intro w hSw; go_simp) <;> with_reducible rfl)
              try simp only [Act.put, List.setIfInBounds_toArray, List.set_cons_zero, List.set_cons_succ]
              refine Rk.take [21] (i := 15) (v := ?_) rfl (by kernel_rfl) (by kernel_rfl) (by kernel_rfl) (by kernel_rfl) (by kernel_rfl) (fun _ _ _ h => h) (Or.inl ⟨by kernel_rfl, ?_⟩) (by assumption) ?_
              rotate_left
              · ((intro w hSw; (try dsimp only at hSw); go_simp) <;> with_reducible rfl)
              try simp only [Act.put, List.setIfInBounds_toArray, List.set_cons_zero, List.set_cons_succ]
              refine Rk.takeP (i := 16) (v := ?_) rfl (by kernel_rfl) (by kernel_rfl) (by kernel_rfl) (by kernel_rfl) (fun _ _ _ h => h) (Or.inl ⟨by kernel_rfl, ?_⟩) (by assumption) ?_
              rotate_left
              · ((intro w hSw; go_simp) <;> with_reducible rfl)
              try simp only [Act.put, List.setIfInBounds_toArray, List.set_cons_zero, List.set_cons_succ]
              refine Rk.takeP (i := 17) (v := ?_) rfl (by kernel_rfl) (by kernel_rfl) (by kernel_rfl) (by kernel_rfl) (fun _ _ _ h => h) (Or.inl ⟨by kernel_rfl, ?_⟩) (by assumption) ?_
              rotate_left
              · ((intro w hSw; go_simp) <;> with_reducible rfl)
              try simp only [Act.put, List.setIfInBounds_toArray, List.set_cons_zero, List.set_cons_succ]
              refine Rk.takeP (i := 18) (v := ?_) rfl (by kernel_rfl) (by kernel_rfl) (by kernel_rfl) (by kernel_rfl) (fun _ _ _ h => h) (Or.inl ⟨by kernel_rfl, ?_⟩) (by assumption) ?_
              rotate_left
              · ((intro w hSw; go_simp) <;> with_reducible rfl)
              try simp only [Act.put, List.setIfInBounds_toArray, List.set_cons_zero, List.set_cons_succ]
              refine Rk.takeP (i := 19) (v := ?_) rfl (by kernel_rfl) (by kernel_rfl) (by kernel_rfl) (by kernel_rfl) (fun _ _ _ h => h) (Or.inl ⟨by kernel_rfl, ?_⟩) (by assumption) ?_
              rotate_left
              · ((intro w hSw; go_simp) <;> with_reducible rfl)
              try simp only [Act.put, List.setIfInBounds_toArray, List.set_cons_zero, List.set_cons_succ]
              refine Rk.take [21] (i := 20) (v := ?_) rfl (by kernel_rfl) (by kernel_rfl) (by kernel_rfl) (by kernel_rfl) (by kernel_rfl) (fun _ _ _ h => h) (Or.inl ⟨by kernel_rfl, ?_⟩) (by assumption) ?_
              rotate_left
              · ((intro w hSw; (try dsimp only at hSw); go_simp) <;> with_reducible rfl)
              try simp only [Act.put, List.setIfInBounds_toArray, List.set_cons_zero, List.set_cons_succ]
              refine Rk.tail [21, 22, 23, 24, 25] [_, _, _, _, _] (by kernel_rfl) (by kernel_rfl) rfl (by decide) ?_
              go_wp2_with (go_at_call 25; (with_reducible refine (CC.out _).mono ?_); rintro e u ⟨rfl, hb⟩; have BU := Lib.hid (hBj.out.trans ((hHeld.2.2.2.2.2.2.2.2.2.trans hb).mono hBj.out.size)); clear hb)
              go_roundw
              case rel => exact ⟨j + 1, true, by go_num, rfl, by omega, (Lib.hid (by first | exact HQ2.out | simpa using HQ2.out)), BU⟩
              case measure => (simp [intOf] <;> omega)
            · go_wp2_with fail
              refine Rk.begin (S := fun wS => wS.cell? ⟨g, j, none⟩ = some (.int .i64 a2) ∧ wS.cell? ⟨bk, ok + k * 4, none⟩ = some (.string y.1) ∧ wS.cell? ⟨bk, ok + k * 4 + 1, none⟩ = some (.int .i64 y.2.1) ∧ wS.cell? ⟨bk, ok + k * 4 + 2, none⟩ = some (.int .i64 y.2.2.1) ∧ wS.cell? ⟨bk, ok + k * 4 + 3, none⟩ = some (.int .i64 y.2.2.2) ∧ wS.cell? ⟨bk, ok + j * 4, none⟩ = some (.string v.1) ∧ wS.cell? ⟨bk, ok + j * 4 + 1, none⟩ = some (.int .i64 v.2.1) ∧ wS.cell? ⟨bk, ok + j * 4 + 2, none⟩ = some (.int .i64 v.2.2.1) ∧ wS.cell? ⟨bk, ok + j * 4 + 3, none⟩ = some (.int .i64 v.2.2.2) ∧ Below wj.heap.size wj wS) 21 (by kernel_rfl) hz15 (fun hHeld => ?_)
              refine Rk.takeP (i := 0) (v := ?_) rfl (by kernel_rfl) (by kernel_rfl) (by kernel_rfl) (by kernel_rfl) (fun _ _ _ h => h) (Or.inl ⟨by kernel_rfl, ?_⟩) (by assumption) ?_
              rotate_left
              · ((intro w hSw; go_simp) <;> with_reducible rfl)
              try simp only [Act.put, List.setIfInBounds_toArray, List.set_cons_zero, List.set_cons_succ]
              refine Rk.takeP (i := 1) (v := ?_) rfl (by kernel_rfl) (by kernel_rfl) (by kernel_rfl) (by kernel_rfl) (fun _ _ _ h => h) (Or.inl ⟨by kernel_rfl, ?_⟩) (by assumption) ?_
              rotate_left
              · ((intro w hSw; go_simp) <;> with_reducible rfl)
              try simp only [Act.put, List.setIfInBounds_toArray, List.set_cons_zero, List.set_cons_succ]
              refine Rk.takeP (i := 2) (v := ?_) rfl (by kernel_rfl) (by kernel_rfl) (by kernel_rfl) (by kernel_rfl) (fun _ _ _ h => h) (Or.inl ⟨by kernel_rfl, ?_⟩) (by assumption) ?_
              rotate_left
              · ((intro w hSw; go_simp) <;> with_reducible rfl)
              try simp only [Act.put, List.setIfInBounds_toArray, List.set_cons_zero, List.set_cons_succ]
              refine Rk.takeP (i := 3) (v := ?_) rfl (by kernel_rfl) (by kernel_rfl) (by kernel_rfl) (by kernel_rfl) (fun _ _ _ h => h) (Or.inl ⟨by kernel_rfl, ?_⟩) (by assumption) ?_
              rotate_left
              · ((intro w hSw; go_simp) <;> with_reducible rfl)
              try simp only [Act.put, List.setIfInBounds_toArray, List.set_cons_zero, List.set_cons_succ]
              refine Rk.takeP (i := 4) (v := ?_) rfl (by kernel_rfl) (by kernel_rfl) (by kernel_rfl) (by kernel_rfl) (fun _ _ _ h => h) (Or.inl ⟨by kernel_rfl, ?_⟩) (by assumption) ?_
              rotate_left
              · ((intro w hSw; go_simp) <;> with_reducible rfl)
              try simp only [Act.put, List.setIfInBounds_toArray, List.set_cons_zero, List.set_cons_succ]
              refine Rk.take [6, 7, 21] (i := 5) (v := ?_) rfl (by kernel_rfl) (by kernel_rfl) (by kernel_rfl) (by kernel_rfl) (by kernel_rfl) (fun _ _ _ h => h) (Or.inl ⟨by kernel_rfl, ?_⟩) (by assumption) ?_
              rotate_left
              · ((intro w hSw; (try dsimp only at hSw); go_simp) <;> with_reducible rfl)
              try simp only [Act.put, List.setIfInBounds_toArray, List.set_cons_zero, List.set_cons_succ]
              refine Rk.takeP (i := 6) (v := ?_) rfl (by kernel_rfl) (by kernel_rfl) (by kernel_rfl) (by kernel_rfl) (fun _ _ _ h => h) (Or.inl ⟨by kernel_rfl, ?_⟩) (by assumption) ?_
              rotate_left
              · ((intro w hSw; go_simp) <;> with_reducible rfl)
              try simp only [Act.put, List.setIfInBounds_toArray, List.set_cons_zero, List.set_cons_succ]
              refine Rk.takeP (i := 7) (v := ?_) rfl (by kernel_rfl) (by kernel_rfl) (by kernel_rfl) (by kernel_rfl) (fun _ _ _ h => h) (Or.inl ⟨by kernel_rfl, ?_⟩) (by assumption) ?_
              rotate_left
              · ((intro w hSw; go_simp) <;> with_reducible rfl)
              try simp only [Act.put, List.setIfInBounds_toArray, List.set_cons_zero, List.set_cons_succ]
              refine Rk.takeP (i := 8) (v := ?_) rfl (by kernel_rfl) (by kernel_rfl) (by kernel_rfl) (by kernel_rfl) (fun _ _ _ h => h) (Or.inl ⟨by kernel_rfl, ?_⟩) (by assumption) ?_
              rotate_left
              · ((intro w hSw; go_simp) <;> with_reducible rfl)
              try simp only [Act.put, List.setIfInBounds_toArray, List.set_cons_zero, List.set_cons_succ]
              refine Rk.takeP (i := 9) (v := ?_) rfl (by kernel_rfl) (by kernel_rfl) (by kernel_rfl) (by kernel_rfl) (fun _ _ _ h => h) (Or.inl ⟨by kernel_rfl, ?_⟩) (by assumption) ?_
              rotate_left
              · ((intro w hSw; go_simp) <;> with_reducible rfl)
              try simp only [Act.put, List.setIfInBounds_toArray, List.set_cons_zero, List.set_cons_succ]
              refine Rk.takeP (i := 10) (v := ?_) rfl (by kernel_rfl) (by kernel_rfl) (by kernel_rfl) (by kernel_rfl) (fun _ _ _ h => h) (Or.inl ⟨by kernel_rfl, ?_⟩) (by assumption) ?_
              rotate_left
              · ((intro w hSw; go_simp) <;> with_reducible rfl)
              try simp only [Act.put, List.setIfInBounds_toArray, List.set_cons_zero, List.set_cons_succ]
              refine Rk.take [21] (i := 11) (v := ?_) rfl (by kernel_rfl) (by kernel_rfl) (by kernel_rfl) (by kernel_rfl) (by kernel_rfl) (fun _ _ _ h => h) (Or.inl ⟨by kernel_rfl, ?_⟩) (by assumption) ?_
              rotate_left
              · ((intro w hSw; (try dsimp only at hSw); go_simp) <;> with_reducible rfl)
              try simp only [Act.put, List.setIfInBounds_toArray, List.set_cons_zero, List.set_cons_succ]
              refine Rk.takeP (i := 12) (v := ?_) rfl (by kernel_rfl) (by kernel_rfl) (by kernel_rfl) (by kernel_rfl) (fun _ _ _ h => h) (Or.inl ⟨by kernel_rfl, ?_⟩) (by assumption) ?_
              rotate_left
              · ((intro w hSw; go_simp) <;> with_reducible rfl)
              try simp only [Act.put, List.setIfInBounds_toArray, List.set_cons_zero, List.set_cons_succ]
              refine Rk.takeP (i := 13) (v := ?_) rfl (by kernel_rfl) (by kernel_rfl) (by kernel_rfl) (by kernel_rfl) (fun _ _ _ h => h) (Or.inl ⟨by kernel_rfl, ?_⟩) (by assumption) ?_
              rotate_left
              · ((intro w hSw; go_simp) <;> with_reducible rfl)
              try simp only [Act.put, List.setIfInBounds_toArray, List.set_cons_zero, List.set_cons_succ]
              refine Rk.takeP (i := 14) (v := ?_) rfl (by kernel_rfl) (by kernel_rfl) (by kernel_rfl) (by kernel_rfl) (fun _ _ _ h => h) (Or.inl ⟨by kernel_rfl, ?_⟩) (by assumption) ?_
              rotate_left
              · ((intro w hSw; go_simp) <;> with_reducible rfl)
              try simp only [Act.put, List.setIfInBounds_toArray, List.set_cons_zero, List.set_cons_succ]
              refine Rk.take [21] (i := 15) (v := ?_) rfl (by kernel_rfl) (by kernel_rfl) (by kernel_rfl) (by kernel_rfl) (by kernel_rfl) (fun _ _ _ h => h) (Or.inl ⟨by kernel_rfl, ?_⟩) (by assumption) ?_
              rotate_left
              · ((intro w hSw; (try dsimp only at hSw); go_simp) <;> with_reducible rfl)
              try simp only [Act.put, List.setIfInBounds_toArray, List.set_cons_zero, List.set_cons_succ]
              refine Rk.takeP (i := 16) (v := ?_) rfl (by kernel_rfl) (by kernel_rfl) (by kernel_rfl) (by kernel_rfl) (fun _ _ _ h => h) (Or.inl ⟨by kernel_rfl, ?_⟩) (by assumption) ?_
              rotate_left
              · ((intro w hSw; go_simp) <;> with_reducible rfl)
              try simp only [Act.put, List.setIfInBounds_toArray, List.set_cons_zero, List.set_cons_succ]
              refine Rk.takeP (i := 17) (v := ?_) rfl (by kernel_rfl) (by kernel_rfl) (by kernel_rfl) (by kernel_rfl) (fun _ _ _ h => h) (Or.inl ⟨by kernel_rfl, ?_⟩) (by assumption) ?_
              rotate_left
              · ((intro w hSw; go_simp) <;> with_reducible rfl)
              try simp only [Act.put, List.setIfInBounds_toArray, List.set_cons_zero, List.set_cons_succ]
              refine Rk.takeP (i := 18) (v := ?_) rfl (by kernel_rfl) (by kernel_rfl) (by kernel_rfl) (by kernel_rfl) (fun _ _ _ h => h) (Or.inl ⟨by kernel_rfl, ?_⟩) (by assumption) ?_
              rotate_left
              · ((intro w hSw; go_simp) <;> with_reducible rfl)
              try simp only [Act.put, List.setIfInBounds_toArray, List.set_cons_zero, List.set_cons_succ]
              refine Rk.takeP (i := 19) (v := ?_) rfl (by kernel_rfl) (by kernel_rfl) (by kernel_rfl) (by kernel_rfl) (fun _ _ _ h => h) (Or.inl ⟨by kernel_rfl, ?_⟩) (by assumption) ?_
              rotate_left
              · ((intro w hSw; go_simp) <;> with_reducible rfl)
              try simp only [Act.put, List.setIfInBounds_toArray, List.set_cons_zero, List.set_cons_succ]
              refine Rk.take [21] (i := 20) (v := ?_) rfl (by kernel_rfl) (by kernel_rfl) (by kernel_rfl) (by kernel_rfl) (by kernel_rfl) (fun _ _ _ h => h) (Or.inl ⟨by kernel_rfl, ?_⟩) (by assumption) ?_
              rotate_left
              · ((intro w hSw; (try dsimp only at hSw); go_simp) <;> with_reducible rfl)
              try simp only [Act.put, List.setIfInBounds_toArray, List.set_cons_zero, List.set_cons_succ]
              refine Rk.tail [21, 22, 23, 24, 25] [_, _, _, _, _] (by kernel_rfl) (by kernel_rfl) rfl (by decide) ?_
              go_wp2_with (go_at_call 25; (with_reducible refine (CC.out _).mono ?_); rintro e u ⟨rfl, hb⟩; have BU := Lib.hid (hBj.out.trans ((hHeld.2.2.2.2.2.2.2.2.2.trans hb).mono hBj.out.size)); clear hb)
              go_roundw
              case rel => exact ⟨j + 1, false, by go_num, rfl, by omega, (Lib.hid (by first | exact HQ2.out | simpa using HQ2.out)), BU⟩
              case measure => (simp [intOf] <;> omega)
    · obtain ⟨s, rfl⟩ : ∃ s, t = s + 1 := ⟨t - 1, by omega⟩
      have e1 : ((s + 1 : Nat) : Int) - 1 = (s : Int) := by omega
      rw [e1]
      have hsn : s < n := by omega
      have i1 : (s : Int) < n := by omega
      have s0 : (0 : Int) ≤ s := by omega
      have cs := kpb hB.out hgb (RK.out s hsn)
      have hab := HA.out.2 s hsn
      have HCS : Hid (cnd xs A (s + 1 + 1) = if A.getD s e50 < 0 then cnd xs A (s + 1) else cnd xs A (s + 1) ++ [A.getD s e50 + (xs.getD s lf0).2.2.2]) := Lib.hid rfl
      obtain ⟨a, ha⟩ : ∃ a, A.getD s e50 = a := ⟨_, rfl⟩
      rw [ha] at cs hab HCS
      obtain ⟨ab0, ab1⟩ := hab
      clear ha e1
      by_cases hneg : a < 0
      · have t1 : decide (a < 0) = true := decide_eq_true hneg
        have HP2 : Hid (PlI xs A k (cnd xs A (s + 1 + 1)) b f) := Lib.hid (by rw [HCS.out, if_pos hneg]; exact HP.out)
        go_wp2_with fail
        go_roundw
        case rel => exact ⟨s + 2, b, f, by rw [show ((s + 2 : Nat) : Int) - 1 = (s : Int) + 1 by omega], rfl, rfl, by omega, b0, b1, HP2, hB⟩
        case measure => (simp [intOf] <;> omega)
      have t1 : decide (a < 0) = false := decide_eq_false hneg
      obtain ⟨b', o', ee, _, d0, d1, d2, d3⟩ := SlL_at RA.out HN.out hsn
      cases ee
      replace d3 := kpb hB.out hbk d3
      have hzs := HZ.out s hsn
      obtain ⟨zs, hzs9⟩ : ∃ zs, (xs.getD s lf0).2.2.2 = zs := ⟨_, rfl⟩
      rw [hzs9] at d3 hzs HCS
      obtain ⟨zs1, zs2⟩ := hzs
      obtain ⟨x, hx⟩ : ∃ x : Int, a + zs = x := ⟨_, rfl⟩
      have HCN : Hid (cnd xs A (s + 1 + 1) = cnd xs A (s + 1) ++ [x]) := Lib.hid (by rw [HCS.out, if_neg hneg, hx])
      have x0 : 0 ≤ x := by omega
      have x1 : x ≤ 250000 := by omega
      have HX0 := Lib.hid hx
      clear d0 d1 d2 hzs9 hx hneg
      go_upto_region 9 with fail
      have wz9 : IntKind.i64.wrap (a + zs) = x := by rw [IntKind.wrap_i64, HX0.out]; omega
      go_quiet (fail)
      go_upto_region 10 with fail
      try rw [HX0.out]
      have ti : ((s + 1 + 1 : Nat) : Int) - 1 = (s : Int) + 1 := by omega
      obtain ⟨w5, hw5⟩ : ∃ w5, w5 = w0.drewN nq := ⟨_, rfl⟩
      rw [← hw5]
      have hBW : Hid (Below w.heap.size w w5) := Lib.hid (by rw [hw5]; exact below_drewN hB.out nq)
      clear hB hw5 cs d3 wz9
      have z3 := kpb hBW.out hbk HCK.out.2.2.2
      have hzB : ¬ (2147483647 - y.2.2.2 < x) := by omega
      cases f
      · skip
        go_wp2_with fail
        go_loopw [12, 13] (fun fr jv wr => ∃ (j : Nat) (q : Bool), jv = .int .i64 (j : Int) ∧ fr = .bool q ∧ j ≤ n ∧ Hid (q = true ↔ ∀ j', j' < j → frB xs A k x j' = true) ∧ Hid (Below w.heap.size w wr)) (fun _ jv _ => n - (intOf jv).toNat)
        case atStart => exact ⟨0, true, rfl, rfl, Nat.zero_le _, Lib.hid ⟨fun _ j' h => absurd h (Nat.not_lt_zero _), fun _ => rfl⟩, hBW⟩
        case round =>
          obtain ⟨j, q, rfl, rfl, hj, HQ, hBj⟩ := hrel
          obtain ⟨wj, hwj⟩ : ∃ wj, wj = wr := ⟨_, rfl⟩
          subst hwj
          by_cases hlj : j < n
          case neg =>
            obtain rfl : j = n := by omega
            have j1 : ¬ (j : Int) < j := by omega
            cases q
            case false =>
              have HPN : Hid (PlI xs A k (cnd xs A ((s + 1) + 1)) b false) := Lib.hid (by rw [HCN.out]; exact HP.out.skip (.inr (.inr (fun h => by have h2 := HQ.out.2 (fun j' h' => h j' (by rw [HA.out.1]; exact h')); cases h2))))
              go_wp2_with fail
              go_roundw
              case rel => exact ⟨(s + 1) + 1, b, false, (by first | (rw [ti]; done) | rfl | (go_num; done) | (simp; done)), rfl, rfl, by omega, b0, b1, HPN, hBj⟩
              case measure => (simp [intOf] <;> omega)
            case true =>
              have HPN : Hid (PlI xs A k (cnd xs A ((s + 1) + 1)) x true) := Lib.hid (by rw [HCN.out]; exact HP.out.take (by rw [HY.out]; omega) (fun h => by cases h) (fun j' h' => HQ.out.1 rfl j' (by rw [← HA.out.1]; exact h')))
              go_wp2_with fail
              go_roundw
              case rel => exact ⟨(s + 1) + 1, x, true, (by first | (rw [ti]; done) | rfl | (go_num; done) | (simp; done)), rfl, rfl, by omega, by omega, by omega, HPN, hBj⟩
              case measure => (simp [intOf] <;> omega)
          have j0 : (0 : Int) ≤ j := by omega
          have j1 : (j : Int) < n := by omega
          have hNX : ∀ r : Bool, frB xs A k x j = r → q = true → (r = true ↔ ∀ j', j' < j + 1 → frB xs A k x j' = true) := fun r hr hq => ⟨fun h j' h' => by
              rcases Nat.lt_or_eq_of_le (Nat.le_of_lt_succ h') with h1 | rfl
              · exact HQ.out.1 hq j' h1
              · rw [hr]; exact h, fun h => by rw [← hr]; exact h j (Nat.lt_succ_self _)⟩
          have HNX := Lib.hid hNX
          clear hNX
          cases q
          case false =>
            have HQ2 : Hid (false = true ↔ ∀ j', j' < j + 1 → frB xs A k x j' = true) := Lib.hid ⟨fun h => (by cases h), fun h => by have h2 := HQ.out.2 (fun j' h' => h j' (by omega)); cases h2⟩
            go_wp2_with fail
            go_quiet (fail)
            go_wp2_with fail
            go_roundw
            case rel => exact ⟨j + 1, false, by go_num, rfl, by omega, (Lib.hid (by first | exact HQ2.out | simpa using HQ2.out)), Lib.hid (below_drewN hBj.out _)⟩
            case measure => (simp [intOf] <;> omega)
          have a3 := kpb hBj.out hgb (RK.out j hlj)
          have hab2 := HA.out.2 j hlj
          have hfr : frB xs A k x j = (decide (A.getD j e50 < 0) || !clB (xs.getD k lf0) (xs.getD j lf0) x (A.getD j e50)) := rfl
          obtain ⟨a2, ha2⟩ : ∃ a2, A.getD j e50 = a2 := ⟨_, rfl⟩
          rw [ha2] at a3 hab2 hfr
          obtain ⟨ab2, ab3⟩ := hab2
          clear ha2
          by_cases hng : a2 < 0
          · have t2 : decide (a2 < 0) = true := decide_eq_true hng
            have HQ2 := Lib.hid (HNX.out true (by rw [hfr, t2]; rfl) rfl)
            clear hng hfr
            go_wp2_with fail
            go_quiet (fail)
            go_wp2_with fail
            go_roundw
            case rel => exact ⟨j + 1, true, by go_num, rfl, by omega, (Lib.hid (by first | exact HQ2.out | simpa using HQ2.out)), Lib.hid (below_drewN hBj.out _)⟩
            case measure => (simp [intOf] <;> omega)
          have t2 : decide (a2 < 0) = false := decide_eq_false hng
          obtain ⟨b5, o5, e5, _, v0, v1, v2, v3⟩ := SlL_at RA.out HN.out hlj
          cases e5
          have hzj := HZ.out j hlj
          obtain ⟨v, hv⟩ : ∃ v, xs.getD j lf0 = v := ⟨_, rfl⟩
          rw [hv] at v0 v1 v2 v3 hzj hfr
          rw [HY.out] at hfr
          obtain ⟨zj1, zj2⟩ := hzj
          have v0 := kpb hBj.out hbk v0
          have v1 := kpb hBj.out hbk v1
          have v2 := kpb hBj.out hbk v2
          have v3 := kpb hBj.out hbk v3
          have u0 := kpb hBj.out hbk HCK.out.1
          have u1 := kpb hBj.out hbk HCK.out.2.1
          have u2 := kpb hBj.out hbk HCK.out.2.2.1
          have u3 := kpb hBj.out hbk HCK.out.2.2.2
          have hz15 : wj.drew.cell? ⟨g, j, none⟩ = some (.int .i64 a2) ∧ wj.drew.cell? ⟨bk, ok + k * 4, none⟩ = some (.string y.1) ∧ wj.drew.cell? ⟨bk, ok + k * 4 + 1, none⟩ = some (.int .i64 y.2.1) ∧ wj.drew.cell? ⟨bk, ok + k * 4 + 2, none⟩ = some (.int .i64 y.2.2.1) ∧ wj.drew.cell? ⟨bk, ok + k * 4 + 3, none⟩ = some (.int .i64 y.2.2.2) ∧ wj.drew.cell? ⟨bk, ok + j * 4, none⟩ = some (.string v.1) ∧ wj.drew.cell? ⟨bk, ok + j * 4 + 1, none⟩ = some (.int .i64 v.2.1) ∧ wj.drew.cell? ⟨bk, ok + j * 4 + 2, none⟩ = some (.int .i64 v.2.2.1) ∧ wj.drew.cell? ⟨bk, ok + j * 4 + 3, none⟩ = some (.int .i64 v.2.2.2) ∧ Below wj.heap.size wj wj.drew := ⟨a3, u0, u1, u2, u3, v0, v1, v2, v3, (Below.refl _ _).drew⟩
          obtain ⟨tt, htt⟩ : ∃ tt, clB y v x a2 = tt := ⟨_, rfl⟩
          have CC := Lib.hid (fun w => CL.out y v x a2 w zk1 zk2 zj1 zj2 (by omega) (by omega) (by omega) (by omega))
          rw [htt] at CC
          rw [htt, t2, Bool.false_or] at hfr
          have HQ2 := Lib.hid (HNX.out (!tt) hfr rfl)
          clear htt hfr hv hng a3 u0 u1 u2 u3 v0 v1 v2 v3
          cases tt
          · go_wp2_with fail
            refine Rk.begin (S := fun wS => wS.cell? ⟨g, j, none⟩ = some (.int .i64 a2) ∧ wS.cell? ⟨bk, ok + k * 4, none⟩ = some (.string y.1) ∧ wS.cell? ⟨bk, ok + k * 4 + 1, none⟩ = some (.int .i64 y.2.1) ∧ wS.cell? ⟨bk, ok + k * 4 + 2, none⟩ = some (.int .i64 y.2.2.1) ∧ wS.cell? ⟨bk, ok + k * 4 + 3, none⟩ = some (.int .i64 y.2.2.2) ∧ wS.cell? ⟨bk, ok + j * 4, none⟩ = some (.string v.1) ∧ wS.cell? ⟨bk, ok + j * 4 + 1, none⟩ = some (.int .i64 v.2.1) ∧ wS.cell? ⟨bk, ok + j * 4 + 2, none⟩ = some (.int .i64 v.2.2.1) ∧ wS.cell? ⟨bk, ok + j * 4 + 3, none⟩ = some (.int .i64 v.2.2.2) ∧ Below wj.heap.size wj wS) 21 (by kernel_rfl) hz15 (fun hHeld => ?_)
            refine Rk.takeP (i := 0) (v := ?_) rfl (by kernel_rfl) (by kernel_rfl) (by kernel_rfl) (by kernel_rfl) (fun _ _ _ h => h) (Or.inl ⟨by kernel_rfl, ?_⟩) (by assumption) ?_
            rotate_left
            · ((intro w hSw; go_simp) <;> with_reducible rfl)
            try simp only [Act.put, List.setIfInBounds_toArray, List.set_cons_zero, List.set_cons_succ]
            refine Rk.takeP (i := 1) (v := ?_) rfl (by kernel_rfl) (by kernel_rfl) (by kernel_rfl) (by kernel_rfl) (fun _ _ _ h => h) (Or.inl ⟨by kernel_rfl, ?_⟩) (by assumption) ?_
            rotate_left
            · ((intro w hSw; go_simp) <;> with_reducible rfl)
            try simp only [Act.put, List.setIfInBounds_toArray, List.set_cons_zero, List.set_cons_succ]
            refine Rk.takeP (i := 2) (v := ?_) rfl (by kernel_rfl) (by kernel_rfl) (by kernel_rfl) (by kernel_rfl) (fun _ _ _ h => h) (Or.inl ⟨by kernel_rfl, ?_⟩) (by assumption) ?_
            rotate_left
            · ((intro w hSw; go_simp) <;> with_reducible rfl)
            try simp only [Act.put, List.setIfInBounds_toArray, List.set_cons_zero, List.set_cons_succ]
            refine Rk.takeP (i := 3) (v := ?_) rfl (by kernel_rfl) (by kernel_rfl) (by kernel_rfl) (by kernel_rfl) (fun _ _ _ h => h) (Or.inl ⟨by kernel_rfl, ?_⟩) (by assumption) ?_
            rotate_left
            · ((intro w hSw; go_simp) <;> with_reducible rfl)
            try simp only [Act.put, List.setIfInBounds_toArray, List.set_cons_zero, List.set_cons_succ]
            refine Rk.takeP (i := 4) (v := ?_) rfl (by kernel_rfl) (by kernel_rfl) (by kernel_rfl) (by kernel_rfl) (fun _ _ _ h => h) (Or.inl ⟨by kernel_rfl, ?_⟩) (by assumption) ?_
            rotate_left
            · ((intro w hSw; go_simp) <;> with_reducible rfl)
            try simp only [Act.put, List.setIfInBounds_toArray, List.set_cons_zero, List.set_cons_succ]
            refine Rk.take [6, 7, 21] (i := 5) (v := ?_) rfl (by kernel_rfl) (by kernel_rfl) (by kernel_rfl) (by kernel_rfl) (by kernel_rfl) (fun _ _ _ h => h) (Or.inl ⟨by kernel_rfl, ?_⟩) (by assumption) ?_
            rotate_left
            · ((intro w hSw; (try dsimp only at hSw); go_simp) <;> with_reducible rfl)
            try simp only [Act.put, List.setIfInBounds_toArray, List.set_cons_zero, List.set_cons_succ]
            refine Rk.takeP (i := 6) (v := ?_) rfl (by kernel_rfl) (by kernel_rfl) (by kernel_rfl) (by kernel_rfl) (fun _ _ _ h => h) (Or.inl ⟨by kernel_rfl, ?_⟩) (by assumption) ?_
            rotate_left
            · ((intro w hSw; go_simp) <;> with_reducible rfl)
            try simp only [Act.put, List.setIfInBounds_toArray, List.set_cons_zero, List.set_cons_succ]
            refine Rk.takeP (i := 7) (v := ?_) rfl (by kernel_rfl) (by kernel_rfl) (by kernel_rfl) (by kernel_rfl) (fun _ _ _ h => h) (Or.inl ⟨by kernel_rfl, ?_⟩) (by assumption) ?_
            rotate_left
            · ((intro w hSw; go_simp) <;> with_reducible rfl)
            try simp only [Act.put, List.setIfInBounds_toArray, List.set_cons_zero, List.set_cons_succ]
            refine Rk.takeP (i := 8) (v := ?_) rfl (by kernel_rfl) (by kernel_rfl) (by kernel_rfl) (by kernel_rfl) (fun _ _ _ h => h) (Or.inl ⟨by kernel_rfl, ?_⟩) (by assumption) ?_
            rotate_left
            · ((intro w hSw; go_simp) <;> with_reducible rfl)
            try simp only [Act.put, List.setIfInBounds_toArray, List.set_cons_zero, List.set_cons_succ]
            refine Rk.takeP (i := 9) (v := ?_) rfl (by kernel_rfl) (by kernel_rfl) (by kernel_rfl) (by kernel_rfl) (fun _ _ _ h => h) (Or.inl ⟨by kernel_rfl, ?_⟩) (by assumption) ?_
            rotate_left
            · ((intro w hSw; go_simp) <;> with_reducible rfl)
            try simp only [Act.put, List.setIfInBounds_toArray, List.set_cons_zero, List.set_cons_succ]
            refine Rk.takeP (i := 10) (v := ?_) rfl (by kernel_rfl) (by kernel_rfl) (by kernel_rfl) (by kernel_rfl) (fun _ _ _ h => h) (Or.inl ⟨by kernel_rfl, ?_⟩) (by assumption) ?_
            rotate_left
            · ((intro w hSw; go_simp) <;> with_reducible rfl)
            try simp only [Act.put, List.setIfInBounds_toArray, List.set_cons_zero, List.set_cons_succ]
            refine Rk.take [21] (i := 11) (v := ?_) rfl (by kernel_rfl) (by kernel_rfl) (by kernel_rfl) (by kernel_rfl) (by kernel_rfl) (fun _ _ _ h => h) (Or.inl ⟨by kernel_rfl, ?_⟩) (by assumption) ?_
            rotate_left
            · ((intro w hSw; (try dsimp only at hSw); go_simp) <;> with_reducible rfl)
            try simp only [Act.put, List.setIfInBounds_toArray, List.set_cons_zero, List.set_cons_succ]
            refine Rk.takeP (i := 12) (v := ?_) rfl (by kernel_rfl) (by kernel_rfl) (by kernel_rfl) (by kernel_rfl) (fun _ _ _ h => h) (Or.inl ⟨by kernel_rfl, ?_⟩) (by assumption) ?_
            rotate_left
            · ((intro w hSw; go_simp) <;> with_reducible rfl)
            try simp only [Act.put, List.setIfInBounds_toArray, List.set_cons_zero, List.set_cons_succ]
            refine Rk.takeP (i := 13) (v := ?_) rfl (by kernel_rfl) (by kernel_rfl) (by kernel_rfl) (by kernel_rfl) (fun _ _ _ h => h) (Or.inl ⟨by kernel_rfl, ?_⟩) (by assumption) ?_
            rotate_left
            · ((intro w hSw; go_simp) <;> with_reducible rfl)
            try simp only [Act.put, List.setIfInBounds_toArray, List.set_cons_zero, List.set_cons_succ]
            refine Rk.takeP (i := 14) (v := ?_) rfl (by kernel_rfl) (by kernel_rfl) (by kernel_rfl) (by kernel_rfl) (fun _ _ _ h => h) (Or.inl ⟨by kernel_rfl, ?_⟩) (by assumption) ?_
            rotate_left
            · ((intro w hSw; go_simp) <;> with_reducible rfl)
            try simp only [Act.put, List.setIfInBounds_toArray, List.set_cons_zero, List.set_cons_succ]
            refine Rk.take [21] (i := 15) (v := ?_) rfl (by kernel_rfl) (by kernel_rfl) (by kernel_rfl) (by kernel_rfl) (by kernel_rfl) (fun _ _ _ h => h) (Or.inl ⟨by kernel_rfl, ?_⟩) (by assumption) ?_
            rotate_left
            · ((intro w hSw; (try dsimp only at hSw); go_simp) <;> with_reducible rfl)
            try simp only [Act.put, List.setIfInBounds_toArray, List.set_cons_zero, List.set_cons_succ]
            refine Rk.takeP (i := 16) (v := ?_) rfl (by kernel_rfl) (by kernel_rfl) (by kernel_rfl) (by kernel_rfl) (fun _ _ _ h => h) (Or.inl ⟨by kernel_rfl, ?_⟩) (by assumption) ?_
            rotate_left
            · ((intro w hSw; go_simp) <;> with_reducible rfl)
            try simp only [Act.put, List.setIfInBounds_toArray, List.set_cons_zero, List.set_cons_succ]
            refine Rk.takeP (i := 17) (v := ?_) rfl (by kernel_rfl) (by kernel_rfl) (by kernel_rfl) (by kernel_rfl) (fun _ _ _ h => h) (Or.inl ⟨by kernel_rfl, ?_⟩) (by assumption) ?_
            rotate_left
            · ((intro w hSw; go_simp) <;> with_reducible rfl)
            try simp only [Act.put, List.setIfInBounds_toArray, List.set_cons_zero, List.set_cons_succ]
            refine Rk.takeP (i := 18) (v := ?_) rfl (by kernel_rfl) (by kernel_rfl) (by kernel_rfl) (by kernel_rfl) (fun _ _ _ h => h) (Or.inl ⟨by kernel_rfl, ?_⟩) (by assumption) ?_
            rotate_left
            · ((intro w hSw; go_simp) <;> with_reducible rfl)
            try simp only [Act.put, List.setIfInBounds_toArray, List.set_cons_zero, List.set_cons_succ]
            refine Rk.takeP (i := 19) (v := ?_) rfl (by kernel_rfl) (by kernel_rfl) (by kernel_rfl) (by kernel_rfl) (fun _ _ _ h => h) (Or.inl ⟨by kernel_rfl, ?_⟩) (by assumption) ?_
            rotate_left
            · ((intro w hSw; go_simp) <;> with_reducible rfl)
            try simp only [Act.put, List.setIfInBounds_toArray, List.set_cons_zero, List.set_cons_succ]
            refine Rk.take [21] (i := 20) (v := ?_) rfl (by kernel_rfl) (by kernel_rfl) (by kernel_rfl) (by kernel_rfl) (by kernel_rfl) (fun _ _ _ h => h) (Or.inl ⟨by kernel_rfl, ?_⟩) (by assumption) ?_
            rotate_left
            · ((intro w hSw; (try dsimp only at hSw); go_simp) <;> with_reducible rfl)
            try simp only [Act.put, List.setIfInBounds_toArray, List.set_cons_zero, List.set_cons_succ]
            refine Rk.tail [21, 22, 23, 24, 25] [_, _, _, _, _] (by kernel_rfl) (by kernel_rfl) rfl (by decide) ?_
            go_wp2_with (go_at_call 25; (with_reducible refine (CC.out _).mono ?_); rintro e u ⟨rfl, hb⟩; have BU := Lib.hid (hBj.out.trans ((hHeld.2.2.2.2.2.2.2.2.2.trans hb).mono hBj.out.size)); clear hb)
            go_roundw
            case rel => exact ⟨j + 1, true, by go_num, rfl, by omega, (Lib.hid (by first | exact HQ2.out | simpa using HQ2.out)), BU⟩
            case measure => (simp [intOf] <;> omega)
          · go_wp2_with fail
            refine Rk.begin (S := fun wS => wS.cell? ⟨g, j, none⟩ = some (.int .i64 a2) ∧ wS.cell? ⟨bk, ok + k * 4, none⟩ = some (.string y.1) ∧ wS.cell? ⟨bk, ok + k * 4 + 1, none⟩ = some (.int .i64 y.2.1) ∧ wS.cell? ⟨bk, ok + k * 4 + 2, none⟩ = some (.int .i64 y.2.2.1) ∧ wS.cell? ⟨bk, ok + k * 4 + 3, none⟩ = some (.int .i64 y.2.2.2) ∧ wS.cell? ⟨bk, ok + j * 4, none⟩ = some (.string v.1) ∧ wS.cell? ⟨bk, ok + j * 4 + 1, none⟩ = some (.int .i64 v.2.1) ∧ wS.cell? ⟨bk, ok + j * 4 + 2, none⟩ = some (.int .i64 v.2.2.1) ∧ wS.cell? ⟨bk, ok + j * 4 + 3, none⟩ = some (.int .i64 v.2.2.2) ∧ Below wj.heap.size wj wS) 21 (by kernel_rfl) hz15 (fun hHeld => ?_)
            refine Rk.takeP (i := 0) (v := ?_) rfl (by kernel_rfl) (by kernel_rfl) (by kernel_rfl) (by kernel_rfl) (fun _ _ _ h => h) (Or.inl ⟨by kernel_rfl, ?_⟩) (by assumption) ?_
            rotate_left
            · ((intro w hSw; go_simp) <;> with_reducible rfl)
            try simp only [Act.put, List.setIfInBounds_toArray, List.set_cons_zero, List.set_cons_succ]
            refine Rk.takeP (i := 1) (v := ?_) rfl (by kernel_rfl) (by kernel_rfl) (by kernel_rfl) (by kernel_rfl) (fun _ _ _ h => h) (Or.inl ⟨by kernel_rfl, ?_⟩) (by assumption) ?_
            rotate_left
            · ((intro w hSw; go_simp) <;> with_reducible rfl)
            try simp only [Act.put, List.setIfInBounds_toArray, List.set_cons_zero, List.set_cons_succ]
            refine Rk.takeP (i := 2) (v := ?_) rfl (by kernel_rfl) (by kernel_rfl) (by kernel_rfl) (by kernel_rfl) (fun _ _ _ h => h) (Or.inl ⟨by kernel_rfl, ?_⟩) (by assumption) ?_
            rotate_left
            · ((intro w hSw; go_simp) <;> with_reducible rfl)
            try simp only [Act.put, List.setIfInBounds_toArray, List.set_cons_zero, List.set_cons_succ]
            refine Rk.takeP (i := 3) (v := ?_) rfl (by kernel_rfl) (by kernel_rfl) (by kernel_rfl) (by kernel_rfl) (fun _ _ _ h => h) (Or.inl ⟨by kernel_rfl, ?_⟩) (by assumption) ?_
            rotate_left
            · ((intro w hSw; go_simp) <;> with_reducible rfl)
            try simp only [Act.put, List.setIfInBounds_toArray, List.set_cons_zero, List.set_cons_succ]
            refine Rk.takeP (i := 4) (v := ?_) rfl (by kernel_rfl) (by kernel_rfl) (by kernel_rfl) (by kernel_rfl) (fun _ _ _ h => h) (Or.inl ⟨by kernel_rfl, ?_⟩) (by assumption) ?_
            rotate_left
            · ((intro w hSw; go_simp) <;> with_reducible rfl)
            try simp only [Act.put, List.setIfInBounds_toArray, List.set_cons_zero, List.set_cons_succ]
            refine Rk.take [6, 7, 21] (i := 5) (v := ?_) rfl (by kernel_rfl) (by kernel_rfl) (by kernel_rfl) (by kernel_rfl) (by kernel_rfl) (fun _ _ _ h => h) (Or.inl ⟨by kernel_rfl, ?_⟩) (by assumption) ?_
            rotate_left
            · ((intro w hSw; (try dsimp only at hSw); go_simp) <;> with_reducible rfl)
            try simp only [Act.put, List.setIfInBounds_toArray, List.set_cons_zero, List.set_cons_succ]
            refine Rk.takeP (i := 6) (v := ?_) rfl (by kernel_rfl) (by kernel_rfl) (by kernel_rfl) (by kernel_rfl) (fun _ _ _ h => h) (Or.inl ⟨by kernel_rfl, ?_⟩) (by assumption) ?_
            rotate_left
            · ((intro w hSw; go_simp) <;> with_reducible rfl)
            try simp only [Act.put, List.setIfInBounds_toArray, List.set_cons_zero, List.set_cons_succ]
            refine Rk.takeP (i := 7) (v := ?_) rfl (by kernel_rfl) (by kernel_rfl) (by kernel_rfl) (by kernel_rfl) (fun _ _ _ h => h) (Or.inl ⟨by kernel_rfl, ?_⟩) (by assumption) ?_
            rotate_left
            · ((intro w hSw; go_simp) <;> with_reducible rfl)
            try simp only [Act.put, List.setIfInBounds_toArray, List.set_cons_zero, List.set_cons_succ]
            refine Rk.takeP (i := 8) (v := ?_) rfl (by kernel_rfl) (by kernel_rfl) (by kernel_rfl) (by kernel_rfl) (fun _ _ _ h => h) (Or.inl ⟨by kernel_rfl, ?_⟩) (by assumption) ?_
            rotate_left
            · ((intro w hSw; go_simp) <;> with_reducible rfl)
            try simp only [Act.put, List.setIfInBounds_toArray, List.set_cons_zero, List.set_cons_succ]
            refine Rk.takeP (i := 9) (v := ?_) rfl (by kernel_rfl) (by kernel_rfl) (by kernel_rfl) (by kernel_rfl) (fun _ _ _ h => h) (Or.inl ⟨by kernel_rfl, ?_⟩) (by assumption) ?_
            rotate_left
            · ((intro w hSw; go_simp) <;> with_reducible rfl)
            try simp only [Act.put, List.setIfInBounds_toArray, List.set_cons_zero, List.set_cons_succ]
            refine Rk.takeP (i := 10) (v := ?_) rfl (by kernel_rfl) (by kernel_rfl) (by kernel_rfl) (by kernel_rfl) (fun _ _ _ h => h) (Or.inl ⟨by kernel_rfl, ?_⟩) (by assumption) ?_
            rotate_left
            · ((intro w hSw; go_simp) <;> with_reducible rfl)
            try simp only [Act.put, List.setIfInBounds_toArray, List.set_cons_zero, List.set_cons_succ]
            refine Rk.take [21] (i := 11) (v := ?_) rfl (by kernel_rfl) (by kernel_rfl) (by kernel_rfl) (by kernel_rfl) (by kernel_rfl) (fun _ _ _ h => h) (Or.inl ⟨by kernel_rfl, ?_⟩) (by assumption) ?_
            rotate_left
            · ((intro w hSw; (try dsimp only at hSw); go_simp) <;> with_reducible rfl)
            try simp only [Act.put, List.setIfInBounds_toArray, List.set_cons_zero, List.set_cons_succ]
            refine Rk.takeP (i := 12) (v := ?_) rfl (by kernel_rfl) (by kernel_rfl) (by kernel_rfl) (by kernel_rfl) (fun _ _ _ h => h) (Or.inl ⟨by kernel_rfl, ?_⟩) (by assumption) ?_
            rotate_left
            · ((intro w hSw; go_simp) <;> with_reducible rfl)
            try simp only [Act.put, List.setIfInBounds_toArray, List.set_cons_zero, List.set_cons_succ]
            refine Rk.takeP (i := 13) (v := ?_) rfl (by kernel_rfl) (by kernel_rfl) (by kernel_rfl) (by kernel_rfl) (fun _ _ _ h => h) (Or.inl ⟨by kernel_rfl, ?_⟩) (by assumption) ?_
            rotate_left
            · ((intro w hSw; go_simp) <;> with_reducible rfl)
            try simp only [Act.put, List.setIfInBounds_toArray, List.set_cons_zero, List.set_cons_succ]
            refine Rk.takeP (i := 14) (v := ?_) rfl (by kernel_rfl) (by kernel_rfl) (by kernel_rfl) (by kernel_rfl) (fun _ _ _ h => h) (Or.inl ⟨by kernel_rfl, ?_⟩) (by assumption) ?_
            rotate_left
            · ((intro w hSw; go_simp) <;> with_reducible rfl)
            try simp only [Act.put, List.setIfInBounds_toArray, List.set_cons_zero, List.set_cons_succ]
            refine Rk.take [21] (i := 15) (v := ?_) rfl (by kernel_rfl) (by kernel_rfl) (by kernel_rfl) (by kernel_rfl) (by kernel_rfl) (fun _ _ _ h => h) (Or.inl ⟨by kernel_rfl, ?_⟩) (by assumption) ?_
            rotate_left
            · ((intro w hSw; (try dsimp only at hSw); go_simp) <;> with_reducible rfl)
            try simp only [Act.put, List.setIfInBounds_toArray, List.set_cons_zero, List.set_cons_succ]
            refine Rk.takeP (i := 16) (v := ?_) rfl (by kernel_rfl) (by kernel_rfl) (by kernel_rfl) (by kernel_rfl) (fun _ _ _ h => h) (Or.inl ⟨by kernel_rfl, ?_⟩) (by assumption) ?_
            rotate_left
            · ((intro w hSw; go_simp) <;> with_reducible rfl)
            try simp only [Act.put, List.setIfInBounds_toArray, List.set_cons_zero, List.set_cons_succ]
            refine Rk.takeP (i := 17) (v := ?_) rfl (by kernel_rfl) (by kernel_rfl) (by kernel_rfl) (by kernel_rfl) (fun _ _ _ h => h) (Or.inl ⟨by kernel_rfl, ?_⟩) (by assumption) ?_
            rotate_left
            · ((intro w hSw; go_simp) <;> with_reducible rfl)
            try simp only [Act.put, List.setIfInBounds_toArray, List.set_cons_zero, List.set_cons_succ]
            refine Rk.takeP (i := 18) (v := ?_) rfl (by kernel_rfl) (by kernel_rfl) (by kernel_rfl) (by kernel_rfl) (fun _ _ _ h => h) (Or.inl ⟨by kernel_rfl, ?_⟩) (by assumption) ?_
            rotate_left
            · ((intro w hSw; go_simp) <;> with_reducible rfl)
            try simp only [Act.put, List.setIfInBounds_toArray, List.set_cons_zero, List.set_cons_succ]
            refine Rk.takeP (i := 19) (v := ?_) rfl (by kernel_rfl) (by kernel_rfl) (by kernel_rfl) (by kernel_rfl) (fun _ _ _ h => h) (Or.inl ⟨by kernel_rfl, ?_⟩) (by assumption) ?_
            rotate_left
            · ((intro w hSw; go_simp) <;> with_reducible rfl)
            try simp only [Act.put, List.setIfInBounds_toArray, List.set_cons_zero, List.set_cons_succ]
            refine Rk.take [21] (i := 20) (v := ?_) rfl (by kernel_rfl) (by kernel_rfl) (by kernel_rfl) (by kernel_rfl) (by kernel_rfl) (fun _ _ _ h => h) (Or.inl ⟨by kernel_rfl, ?_⟩) (by assumption) ?_
            rotate_left
            · ((intro w hSw; (try dsimp only at hSw); go_simp) <;> with_reducible rfl)
            try simp only [Act.put, List.setIfInBounds_toArray, List.set_cons_zero, List.set_cons_succ]
            refine Rk.tail [21, 22, 23, 24, 25] [_, _, _, _, _] (by kernel_rfl) (by kernel_rfl) rfl (by decide) ?_
            go_wp2_with (go_at_call 25; (with_reducible refine (CC.out _).mono ?_); rintro e u ⟨rfl, hb⟩; have BU := Lib.hid (hBj.out.trans ((hHeld.2.2.2.2.2.2.2.2.2.trans hb).mono hBj.out.size)); clear hb)
            go_roundw
            case rel => exact ⟨j + 1, false, by go_num, rfl, by omega, (Lib.hid (by first | exact HQ2.out | simpa using HQ2.out)), BU⟩
            case measure => (simp [intOf] <;> omega)
      · by_cases hbx : b ≤ x
        · have HPN : Hid (PlI xs A k (cnd xs A ((s + 1) + 1)) b true) := Lib.hid (by rw [HCN.out]; exact HP.out.skip (.inr (.inl ⟨rfl, hbx⟩)))
          go_wp2_with fail
          go_roundw
          case rel => exact ⟨(s + 1) + 1, b, true, (by first | (rw [ti]; done) | rfl | (go_num; done) | (simp; done)), rfl, rfl, by omega, b0, b1, HPN, hBW⟩
          case measure => (simp [intOf] <;> omega)
        · have hbx2 : x < b := by omega
          go_wp2_with fail
          go_loopw [12, 13] (fun fr jv wr => ∃ (j : Nat) (q : Bool), jv = .int .i64 (j : Int) ∧ fr = .bool q ∧ j ≤ n ∧ Hid (q = true ↔ ∀ j', j' < j → frB xs A k x j' = true) ∧ Hid (Below w.heap.size w wr)) (fun _ jv _ => n - (intOf jv).toNat)
          case atStart => exact ⟨0, true, rfl, rfl, Nat.zero_le _, Lib.hid ⟨fun _ j' h => absurd h (Nat.not_lt_zero _), fun _ => rfl⟩, hBW⟩
          case round =>
            obtain ⟨j, q, rfl, rfl, hj, HQ, hBj⟩ := hrel
            obtain ⟨wj, hwj⟩ : ∃ wj, wj = wr := ⟨_, rfl⟩
            subst hwj
            by_cases hlj : j < n
            case neg =>
              obtain rfl : j = n := by omega
              have j1 : ¬ (j : Int) < j := by omega
              cases q
              case false =>
                have HPN : Hid (PlI xs A k (cnd xs A ((s + 1) + 1)) b true) := Lib.hid (by rw [HCN.out]; exact HP.out.skip (.inr (.inr (fun h => by have h2 := HQ.out.2 (fun j' h' => h j' (by rw [HA.out.1]; exact h')); cases h2))))
                go_wp2_with fail
                go_roundw
                case rel => exact ⟨(s + 1) + 1, b, true, (by first | (rw [ti]; done) | rfl | (go_num; done) | (simp; done)), rfl, rfl, by omega, b0, b1, HPN, hBj⟩
                case measure => (simp [intOf] <;> omega)
              case true =>
                have HPN : Hid (PlI xs A k (cnd xs A ((s + 1) + 1)) x true) := Lib.hid (by rw [HCN.out]; exact HP.out.take (by rw [HY.out]; omega) (fun h => by omega) (fun j' h' => HQ.out.1 rfl j' (by rw [← HA.out.1]; exact h')))
                go_wp2_with fail
                go_roundw
                case rel => exact ⟨(s + 1) + 1, x, true, (by first | (rw [ti]; done) | rfl | (go_num; done) | (simp; done)), rfl, rfl, by omega, by omega, by omega, HPN, hBj⟩
                case measure => (simp [intOf] <;> omega)
            have j0 : (0 : Int) ≤ j := by omega
            have j1 : (j : Int) < n := by omega
            have hNX : ∀ r : Bool, frB xs A k x j = r → q = true → (r = true ↔ ∀ j', j' < j + 1 → frB xs A k x j' = true) := fun r hr hq => ⟨fun h j' h' => by
                rcases Nat.lt_or_eq_of_le (Nat.le_of_lt_succ h') with h1 | rfl
                · exact HQ.out.1 hq j' h1
                · rw [hr]; exact h, fun h => by rw [← hr]; exact h j (Nat.lt_succ_self _)⟩
            have HNX := Lib.hid hNX
            clear hNX
            cases q
            case false =>
              have HQ2 : Hid (false = true ↔ ∀ j', j' < j + 1 → frB xs A k x j' = true) := Lib.hid ⟨fun h => (by cases h), fun h => by have h2 := HQ.out.2 (fun j' h' => h j' (by omega)); cases h2⟩
              go_wp2_with fail
              go_quiet (fail)
              go_wp2_with fail
              go_roundw
              case rel => exact ⟨j + 1, false, by go_num, rfl, by omega, (Lib.hid (by first | exact HQ2.out | simpa using HQ2.out)), Lib.hid (below_drewN hBj.out _)⟩
              case measure => (simp [intOf] <;> omega)
            have a3 := kpb hBj.out hgb (RK.out j hlj)
            have hab2 := HA.out.2 j hlj
            have hfr : frB xs A k x j = (decide (A.getD j e50 < 0) || !clB (xs.getD k lf0) (xs.getD j lf0) x (A.getD j e50)) := rfl
            obtain ⟨a2, ha2⟩ : ∃ a2, A.getD j e50 = a2 := ⟨_, rfl⟩
            rw [ha2] at a3 hab2 hfr
            obtain ⟨ab2, ab3⟩ := hab2
            clear ha2
            by_cases hng : a2 < 0
            · have t2 : decide (a2 < 0) = true := decide_eq_true hng
              have HQ2 := Lib.hid (HNX.out true (by rw [hfr, t2]; rfl) rfl)
              clear hng hfr
              go_wp2_with fail
              go_quiet (fail)
              go_wp2_with fail
              go_roundw
              case rel => exact ⟨j + 1, true, by go_num, rfl, by omega, (Lib.hid (by first | exact HQ2.out | simpa using HQ2.out)), Lib.hid (below_drewN hBj.out _)⟩
              case measure => (simp [intOf] <;> omega)
            have t2 : decide (a2 < 0) = false := decide_eq_false hng
            obtain ⟨b5, o5, e5, _, v0, v1, v2, v3⟩ := SlL_at RA.out HN.out hlj
            cases e5
            have hzj := HZ.out j hlj
            obtain ⟨v, hv⟩ : ∃ v, xs.getD j lf0 = v := ⟨_, rfl⟩
            rw [hv] at v0 v1 v2 v3 hzj hfr
            rw [HY.out] at hfr
            obtain ⟨zj1, zj2⟩ := hzj
            have v0 := kpb hBj.out hbk v0
            have v1 := kpb hBj.out hbk v1
            have v2 := kpb hBj.out hbk v2
            have v3 := kpb hBj.out hbk v3
            have u0 := kpb hBj.out hbk HCK.out.1
            have u1 := kpb hBj.out hbk HCK.out.2.1
            have u2 := kpb hBj.out hbk HCK.out.2.2.1
            have u3 := kpb hBj.out hbk HCK.out.2.2.2
            have hz15 : wj.drew.cell? ⟨g, j, none⟩ = some (.int .i64 a2) ∧ wj.drew.cell? ⟨bk, ok + k * 4, none⟩ = some (.string y.1) ∧ wj.drew.cell? ⟨bk, ok + k * 4 + 1, none⟩ = some (.int .i64 y.2.1) ∧ wj.drew.cell? ⟨bk, ok + k * 4 + 2, none⟩ = some (.int .i64 y.2.2.1) ∧ wj.drew.cell? ⟨bk, ok + k * 4 + 3, none⟩ = some (.int .i64 y.2.2.2) ∧ wj.drew.cell? ⟨bk, ok + j * 4, none⟩ = some (.string v.1) ∧ wj.drew.cell? ⟨bk, ok + j * 4 + 1, none⟩ = some (.int .i64 v.2.1) ∧ wj.drew.cell? ⟨bk, ok + j * 4 + 2, none⟩ = some (.int .i64 v.2.2.1) ∧ wj.drew.cell? ⟨bk, ok + j * 4 + 3, none⟩ = some (.int .i64 v.2.2.2) ∧ Below wj.heap.size wj wj.drew := ⟨a3, u0, u1, u2, u3, v0, v1, v2, v3, (Below.refl _ _).drew⟩
            obtain ⟨tt, htt⟩ : ∃ tt, clB y v x a2 = tt := ⟨_, rfl⟩
            have CC := Lib.hid (fun w => CL.out y v x a2 w zk1 zk2 zj1 zj2 (by omega) (by omega) (by omega) (by omega))
            rw [htt] at CC
            rw [htt, t2, Bool.false_or] at hfr
            have HQ2 := Lib.hid (HNX.out (!tt) hfr rfl)
            clear htt hfr hv hng a3 u0 u1 u2 u3 v0 v1 v2 v3
            cases tt
            · go_wp2_with fail
              refine Rk.begin (S := fun wS => wS.cell? ⟨g, j, none⟩ = some (.int .i64 a2) ∧ wS.cell? ⟨bk, ok + k * 4, none⟩ = some (.string y.1) ∧ wS.cell? ⟨bk, ok + k * 4 + 1, none⟩ = some (.int .i64 y.2.1) ∧ wS.cell? ⟨bk, ok + k * 4 + 2, none⟩ = some (.int .i64 y.2.2.1) ∧ wS.cell? ⟨bk, ok + k * 4 + 3, none⟩ = some (.int .i64 y.2.2.2) ∧ wS.cell? ⟨bk, ok + j * 4, none⟩ = some (.string v.1) ∧ wS.cell? ⟨bk, ok + j * 4 + 1, none⟩ = some (.int .i64 v.2.1) ∧ wS.cell? ⟨bk, ok + j * 4 + 2, none⟩ = some (.int .i64 v.2.2.1) ∧ wS.cell? ⟨bk, ok + j * 4 + 3, none⟩ = some (.int .i64 v.2.2.2) ∧ Below wj.heap.size wj wS) 21 (by kernel_rfl) hz15 (fun hHeld => ?_)
              refine Rk.takeP (i := 0) (v := ?_) rfl (by kernel_rfl) (by kernel_rfl) (by kernel_rfl) (by kernel_rfl) (fun _ _ _ h => h) (Or.inl ⟨by kernel_rfl, ?_⟩) (by assumption) ?_
              rotate_left
              · ((intro w hSw; go_simp) <;> with_reducible rfl)
              try simp only [Act.put, List.setIfInBounds_toArray, List.set_cons_zero, List.set_cons_succ]
              refine Rk.takeP (i := 1) (v := ?_) rfl (by kernel_rfl) (by kernel_rfl) (by kernel_rfl) (by kernel_rfl) (fun _ _ _ h => h) (Or.inl ⟨by kernel_rfl, ?_⟩) (by assumption) ?_
              rotate_left
              · ((intro w hSw; go_simp) <;> with_reducible rfl)
              try simp only [Act.put, List.setIfInBounds_toArray, List.set_cons_zero, List.set_cons_succ]
              refine Rk.takeP (i := 2) (v := ?_) rfl (by kernel_rfl) (by kernel_rfl) (by kernel_rfl) (by kernel_rfl) (fun _ _ _ h => h) (Or.inl ⟨by kernel_rfl, ?_⟩) (by assumption) ?_
              rotate_left
              · ((intro w hSw; go_simp) <;> with_reducible rfl)
              try simp only [Act.put, List.setIfInBounds_toArray, List.set_cons_zero, List.set_cons_succ]
              refine Rk.takeP (i := 3) (v := ?_) rfl (by kernel_rfl) (by kernel_rfl) (by kernel_rfl) (by kernel_rfl) (fun _ _ _ h => h) (Or.inl ⟨by kernel_rfl, ?_⟩) (by assumption) ?_
              rotate_left
              · ((intro w hSw; go_simp) <;> with_reducible rfl)
              try simp only [Act.put, List.setIfInBounds_toArray, List.set_cons_zero, List.set_cons_succ]
              refine Rk.takeP (i := 4) (v := ?_) rfl (by kernel_rfl) (by kernel_rfl) (by kernel_rfl) (by kernel_rfl) (fun _ _ _ h => h) (Or.inl ⟨by kernel_rfl, ?_⟩) (by assumption) ?_
              rotate_left
              · ((intro w hSw; go_simp) <;> with_reducible rfl)
              try simp only [Act.put, List.setIfInBounds_toArray, List.set_cons_zero, List.set_cons_succ]
              refine Rk.take [6, 7, 21] (i := 5) (v := ?_) rfl (by kernel_rfl) (by kernel_rfl) (by kernel_rfl) (by kernel_rfl) (by kernel_rfl) (fun _ _ _ h => h) (Or.inl ⟨by kernel_rfl, ?_⟩) (by assumption) ?_
              rotate_left
              · ((intro w hSw; (try dsimp only at hSw); go_simp) <;> with_reducible rfl)
              try simp only [Act.put, List.setIfInBounds_toArray, List.set_cons_zero, List.set_cons_succ]
              refine Rk.takeP (i := 6) (v := ?_) rfl (by kernel_rfl) (by kernel_rfl) (by kernel_rfl) (by kernel_rfl) (fun _ _ _ h => h) (Or.inl ⟨by kernel_rfl, ?_⟩) (by assumption) ?_
              rotate_left
              · ((intro w hSw; go_simp) <;> with_reducible rfl)
              try simp only [Act.put, List.setIfInBounds_toArray, List.set_cons_zero, List.set_cons_succ]
              refine Rk.takeP (i := 7) (v := ?_) rfl (by kernel_rfl) (by kernel_rfl) (by kernel_rfl) (by kernel_rfl) (fun _ _ _ h => h) (Or.inl ⟨by kernel_rfl, ?_⟩) (by assumption) ?_
              rotate_left
              · ((intro w hSw; go_simp) <;> with_reducible rfl)
              try simp only [Act.put, List.setIfInBounds_toArray, List.set_cons_zero, List.set_cons_succ]
              refine Rk.takeP (i := 8) (v := ?_) rfl (by kernel_rfl) (by kernel_rfl) (by kernel_rfl) (by kernel_rfl) (fun _ _ _ h => h) (Or.inl ⟨by kernel_rfl, ?_⟩) (by assumption) ?_
              rotate_left
              · ((intro w hSw; go_simp) <;> with_reducible rfl)
              try simp only [Act.put, List.setIfInBounds_toArray, List.set_cons_zero, List.set_cons_succ]
              refine Rk.takeP (i := 9) (v := ?_) rfl (by kernel_rfl) (by kernel_rfl) (by kernel_rfl) (by kernel_rfl) (fun _ _ _ h => h) (Or.inl ⟨by kernel_rfl, ?_⟩) (by assumption) ?_
              rotate_left
              · ((intro w hSw; go_simp) <;> with_reducible rfl)
              try simp only [Act.put, List.setIfInBounds_toArray, List.set_cons_zero, List.set_cons_succ]
              refine Rk.takeP (i := 10) (v := ?_) rfl (by kernel_rfl) (by kernel_rfl) (by kernel_rfl) (by kernel_rfl) (fun _ _ _ h => h) (Or.inl ⟨by kernel_rfl, ?_⟩) (by assumption) ?_
              rotate_left
              · ((intro w hSw; go_simp) <;> with_reducible rfl)
              try simp only [Act.put, List.setIfInBounds_toArray, List.set_cons_zero, List.set_cons_succ]
              refine Rk.take [21] (i := 11) (v := ?_) rfl (by kernel_rfl) (by kernel_rfl) (by kernel_rfl) (by kernel_rfl) (by kernel_rfl) (fun _ _ _ h => h) (Or.inl ⟨by kernel_rfl, ?_⟩) (by assumption) ?_
              rotate_left
              · ((intro w hSw; (try dsimp only at hSw); go_simp) <;> with_reducible rfl)
              try simp only [Act.put, List.setIfInBounds_toArray, List.set_cons_zero, List.set_cons_succ]
              refine Rk.takeP (i := 12) (v := ?_) rfl (by kernel_rfl) (by kernel_rfl) (by kernel_rfl) (by kernel_rfl) (fun _ _ _ h => h) (Or.inl ⟨by kernel_rfl, ?_⟩) (by assumption) ?_
              rotate_left
              · ((intro w hSw; go_simp) <;> with_reducible rfl)
              try simp only [Act.put, List.setIfInBounds_toArray, List.set_cons_zero, List.set_cons_succ]
              refine Rk.takeP (i := 13) (v := ?_) rfl (by kernel_rfl) (by kernel_rfl) (by kernel_rfl) (by kernel_rfl) (fun _ _ _ h => h) (Or.inl ⟨by kernel_rfl, ?_⟩) (by assumption) ?_
              rotate_left
              · ((intro w hSw; go_simp) <;> with_reducible rfl)
              try simp only [Act.put, List.setIfInBounds_toArray, List.set_cons_zero, List.set_cons_succ]
              refine Rk.takeP (i := 14) (v := ?_) rfl (by kernel_rfl) (by kernel_rfl) (by kernel_rfl) (by kernel_rfl) (fun _ _ _ h => h) (Or.inl ⟨by kernel_rfl, ?_⟩) (by assumption) ?_
              rotate_left
              · ((intro w hSw; go_simp) <;> with_reducible rfl)
              try simp only [Act.put, List.setIfInBounds_toArray, List.set_cons_zero, List.set_cons_succ]
              refine Rk.take [21] (i := 15) (v := ?_) rfl (by kernel_rfl) (by kernel_rfl) (by kernel_rfl) (by kernel_rfl) (by kernel_rfl) (fun _ _ _ h => h) (Or.inl ⟨by kernel_rfl, ?_⟩) (by assumption) ?_
              rotate_left
              · ((intro w hSw; (try dsimp only at hSw); go_simp) <;> with_reducible rfl)
              try simp only [Act.put, List.setIfInBounds_toArray, List.set_cons_zero, List.set_cons_succ]
              refine Rk.takeP (i := 16) (v := ?_) rfl (by kernel_rfl) (by kernel_rfl) (by kernel_rfl) (by kernel_rfl) (fun _ _ _ h => h) (Or.inl ⟨by kernel_rfl, ?_⟩) (by assumption) ?_
              rotate_left
              · ((intro w hSw; go_simp) <;> with_reducible rfl)
              try simp only [Act.put, List.setIfInBounds_toArray, List.set_cons_zero, List.set_cons_succ]
              refine Rk.takeP (i := 17) (v := ?_) rfl (by kernel_rfl) (by kernel_rfl) (by kernel_rfl) (by kernel_rfl) (fun _ _ _ h => h) (Or.inl ⟨by kernel_rfl, ?_⟩) (by assumption) ?_
              rotate_left
              · ((intro w hSw; go_simp) <;> with_reducible rfl)
              try simp only [Act.put, List.setIfInBounds_toArray, List.set_cons_zero, List.set_cons_succ]
              refine Rk.takeP (i := 18) (v := ?_) rfl (by kernel_rfl) (by kernel_rfl) (by kernel_rfl) (by kernel_rfl) (fun _ _ _ h => h) (Or.inl ⟨by kernel_rfl, ?_⟩) (by assumption) ?_
              rotate_left
              · ((intro w hSw; go_simp) <;> with_reducible rfl)
              try simp only [Act.put, List.setIfInBounds_toArray, List.set_cons_zero, List.set_cons_succ]
              refine Rk.takeP (i := 19) (v := ?_) rfl (by kernel_rfl) (by kernel_rfl) (by kernel_rfl) (by kernel_rfl) (fun _ _ _ h => h) (Or.inl ⟨by kernel_rfl, ?_⟩) (by assumption) ?_
              rotate_left
              · ((intro w hSw; go_simp) <;> with_reducible rfl)
              try simp only [Act.put, List.setIfInBounds_toArray, List.set_cons_zero, List.set_cons_succ]
              refine Rk.take [21] (i := 20) (v := ?_) rfl (by kernel_rfl) (by kernel_rfl) (by kernel_rfl) (by kernel_rfl) (by kernel_rfl) (fun _ _ _ h => h) (Or.inl ⟨by kernel_rfl, ?_⟩) (by assumption) ?_
              rotate_left
              · ((intro w hSw; (try dsimp only at hSw); go_simp) <;> with_reducible rfl)
              try simp only [Act.put, List.setIfInBounds_toArray, List.set_cons_zero, List.set_cons_succ]
              refine Rk.tail [21, 22, 23, 24, 25] [_, _, _, _, _] (by kernel_rfl) (by kernel_rfl) rfl (by decide) ?_
              go_wp2_with (go_at_call 25; (with_reducible refine (CC.out _).mono ?_); rintro e u ⟨rfl, hb⟩; have BU := Lib.hid (hBj.out.trans ((hHeld.2.2.2.2.2.2.2.2.2.trans hb).mono hBj.out.size)); clear hb)
              go_roundw
              case rel => exact ⟨j + 1, true, by go_num, rfl, by omega, (Lib.hid (by first | exact HQ2.out | simpa using HQ2.out)), BU⟩
              case measure => (simp [intOf] <;> omega)
            · go_wp2_with fail
              refine Rk.begin (S := fun wS => wS.cell? ⟨g, j, none⟩ = some (.int .i64 a2) ∧ wS.cell? ⟨bk, ok + k * 4, none⟩ = some (.string y.1) ∧ wS.cell? ⟨bk, ok + k * 4 + 1, none⟩ = some (.int .i64 y.2.1) ∧ wS.cell? ⟨bk, ok + k * 4 + 2, none⟩ = some (.int .i64 y.2.2.1) ∧ wS.cell? ⟨bk, ok + k * 4 + 3, none⟩ = some (.int .i64 y.2.2.2) ∧ wS.cell? ⟨bk, ok + j * 4, none⟩ = some (.string v.1) ∧ wS.cell? ⟨bk, ok + j * 4 + 1, none⟩ = some (.int .i64 v.2.1) ∧ wS.cell? ⟨bk, ok + j * 4 + 2, none⟩ = some (.int .i64 v.2.2.1) ∧ wS.cell? ⟨bk, ok + j * 4 + 3, none⟩ = some (.int .i64 v.2.2.2) ∧ Below wj.heap.size wj wS) 21 (by kernel_rfl) hz15 (fun hHeld => ?_)
              refine Rk.takeP (i := 0) (v := ?_) rfl (by kernel_rfl) (by kernel_rfl) (by kernel_rfl) (by kernel_rfl) (fun _ _ _ h => h) (Or.inl ⟨by kernel_rfl, ?_⟩) (by assumption) ?_
              rotate_left
              · ((intro w hSw; go_simp) <;> with_reducible rfl)
              try simp only [Act.put, List.setIfInBounds_toArray, List.set_cons_zero, List.set_cons_succ]
              refine Rk.takeP (i := 1) (v := ?_) rfl (by kernel_rfl) (by kernel_rfl) (by kernel_rfl) (by kernel_rfl) (fun _ _ _ h => h) (Or.inl ⟨by kernel_rfl, ?_⟩) (by assumption) ?_
              rotate_left
              · ((intro w hSw; go_simp) <;> with_reducible rfl)
              try simp only [Act.put, List.setIfInBounds_toArray, List.set_cons_zero, List.set_cons_succ]
              refine Rk.takeP (i := 2) (v := ?_) rfl (by kernel_rfl) (by kernel_rfl) (by kernel_rfl) (by kernel_rfl) (fun _ _ _ h => h) (Or.inl ⟨by kernel_rfl, ?_⟩) (by assumption) ?_
              rotate_left
              · ((intro w hSw; go_simp) <;> with_reducible rfl)
              try simp only [Act.put, List.setIfInBounds_toArray, List.set_cons_zero, List.set_cons_succ]
              refine Rk.takeP (i := 3) (v := ?_) rfl (by kernel_rfl) (by kernel_rfl) (by kernel_rfl) (by kernel_rfl) (fun _ _ _ h => h) (Or.inl ⟨by kernel_rfl, ?_⟩) (by assumption) ?_
              rotate_left
              · ((intro w hSw; go_simp) <;> with_reducible rfl)
              try simp only [Act.put, List.setIfInBounds_toArray, List.set_cons_zero, List.set_cons_succ]
              refine Rk.takeP (i := 4) (v := ?_) rfl (by kernel_rfl) (by kernel_rfl) (by kernel_rfl) (by kernel_rfl) (fun _ _ _ h => h) (Or.inl ⟨by kernel_rfl, ?_⟩) (by assumption) ?_
              rotate_left
              · ((intro w hSw; go_simp) <;> with_reducible rfl)
              try simp only [Act.put, List.setIfInBounds_toArray, List.set_cons_zero, List.set_cons_succ]
              refine Rk.take [6, 7, 21] (i := 5) (v := ?_) rfl (by kernel_rfl) (by kernel_rfl) (by kernel_rfl) (by kernel_rfl) (by kernel_rfl) (fun _ _ _ h => h) (Or.inl ⟨by kernel_rfl, ?_⟩) (by assumption) ?_
              rotate_left
              · ((intro w hSw; (try dsimp only at hSw); go_simp) <;> with_reducible rfl)
              try simp only [Act.put, List.setIfInBounds_toArray, List.set_cons_zero, List.set_cons_succ]
              refine Rk.takeP (i := 6) (v := ?_) rfl (by kernel_rfl) (by kernel_rfl) (by kernel_rfl) (by kernel_rfl) (fun _ _ _ h => h) (Or.inl ⟨by kernel_rfl, ?_⟩) (by assumption) ?_
              rotate_left
              · ((intro w hSw; go_simp) <;> with_reducible rfl)
              try simp only [Act.put, List.setIfInBounds_toArray, List.set_cons_zero, List.set_cons_succ]
              refine Rk.takeP (i := 7) (v := ?_) rfl (by kernel_rfl) (by kernel_rfl) (by kernel_rfl) (by kernel_rfl) (fun _ _ _ h => h) (Or.inl ⟨by kernel_rfl, ?_⟩) (by assumption) ?_
              rotate_left
              · ((intro w hSw; go_simp) <;> with_reducible rfl)
              try simp only [Act.put, List.setIfInBounds_toArray, List.set_cons_zero, List.set_cons_succ]
              refine Rk.takeP (i := 8) (v := ?_) rfl (by kernel_rfl) (by kernel_rfl) (by kernel_rfl) (by kernel_rfl) (fun _ _ _ h => h) (Or.inl ⟨by kernel_rfl, ?_⟩) (by assumption) ?_
              rotate_left
              · ((intro w hSw; go_simp) <;> with_reducible rfl)
              try simp only [Act.put, List.setIfInBounds_toArray, List.set_cons_zero, List.set_cons_succ]
              refine Rk.takeP (i := 9) (v := ?_) rfl (by kernel_rfl) (by kernel_rfl) (by kernel_rfl) (by kernel_rfl) (fun _ _ _ h => h) (Or.inl ⟨by kernel_rfl, ?_⟩) (by assumption) ?_
              rotate_left
              · ((intro w hSw; go_simp) <;> with_reducible rfl)
              try simp only [Act.put, List.setIfInBounds_toArray, List.set_cons_zero, List.set_cons_succ]
              refine Rk.takeP (i := 10) (v := ?_) rfl (by kernel_rfl) (by kernel_rfl) (by kernel_rfl) (by kernel_rfl) (fun _ _ _ h => h) (Or.inl ⟨by kernel_rfl, ?_⟩) (by assumption) ?_
              rotate_left
              · ((intro w hSw; go_simp) <;> with_reducible rfl)
              try simp only [Act.put, List.setIfInBounds_toArray, List.set_cons_zero, List.set_cons_succ]
              refine Rk.take [21] (i := 11) (v := ?_) rfl (by kernel_rfl) (by kernel_rfl) (by kernel_rfl) (by kernel_rfl) (by kernel_rfl) (fun _ _ _ h => h) (Or.inl ⟨by kernel_rfl, ?_⟩) (by assumption) ?_
              rotate_left
              · ((intro w hSw; (try dsimp only at hSw); go_simp) <;> with_reducible rfl)
              try simp only [Act.put, List.setIfInBounds_toArray, List.set_cons_zero, List.set_cons_succ]
              refine Rk.takeP (i := 12) (v := ?_) rfl (by kernel_rfl) (by kernel_rfl) (by kernel_rfl) (by kernel_rfl) (fun _ _ _ h => h) (Or.inl ⟨by kernel_rfl, ?_⟩) (by assumption) ?_
              rotate_left
              · ((intro w hSw; go_simp) <;> with_reducible rfl)
              try simp only [Act.put, List.setIfInBounds_toArray, List.set_cons_zero, List.set_cons_succ]
              refine Rk.takeP (i := 13) (v := ?_) rfl (by kernel_rfl) (by kernel_rfl) (by kernel_rfl) (by kernel_rfl) (fun _ _ _ h => h) (Or.inl ⟨by kernel_rfl, ?_⟩) (by assumption) ?_
              rotate_left
              · ((intro w hSw; go_simp) <;> with_reducible rfl)
              try simp only [Act.put, List.setIfInBounds_toArray, List.set_cons_zero, List.set_cons_succ]
              refine Rk.takeP (i := 14) (v := ?_) rfl (by kernel_rfl) (by kernel_rfl) (by kernel_rfl) (by kernel_rfl) (fun _ _ _ h => h) (Or.inl ⟨by kernel_rfl, ?_⟩) (by assumption) ?_
              rotate_left
              · ((intro w hSw; go_simp) <;> with_reducible rfl)
              try simp only [Act.put, List.setIfInBounds_toArray, List.set_cons_zero, List.set_cons_succ]
              refine Rk.take [21] (i := 15) (v := ?_) rfl (by kernel_rfl) (by kernel_rfl) (by kernel_rfl) (by kernel_rfl) (by kernel_rfl) (fun _ _ _ h => h) (Or.inl ⟨by kernel_rfl, ?_⟩) (by assumption) ?_
              rotate_left
              · ((intro w hSw; (try dsimp only at hSw); go_simp) <;> with_reducible rfl)
              try simp only [Act.put, List.setIfInBounds_toArray, List.set_cons_zero, List.set_cons_succ]
              refine Rk.takeP (i := 16) (v := ?_) rfl (by kernel_rfl) (by kernel_rfl) (by kernel_rfl) (by kernel_rfl) (fun _ _ _ h => h) (Or.inl ⟨by kernel_rfl, ?_⟩) (by assumption) ?_
              rotate_left
              · ((intro w hSw; go_simp) <;> with_reducible rfl)
              try simp only [Act.put, List.setIfInBounds_toArray, List.set_cons_zero, List.set_cons_succ]
              refine Rk.takeP (i := 17) (v := ?_) rfl (by kernel_rfl) (by kernel_rfl) (by kernel_rfl) (by kernel_rfl) (fun _ _ _ h => h) (Or.inl ⟨by kernel_rfl, ?_⟩) (by assumption) ?_
              rotate_left
              · ((intro w hSw; go_simp) <;> with_reducible rfl)
              try simp only [Act.put, List.setIfInBounds_toArray, List.set_cons_zero, List.set_cons_succ]
              refine Rk.takeP (i := 18) (v := ?_) rfl (by kernel_rfl) (by kernel_rfl) (by kernel_rfl) (by kernel_rfl) (fun _ _ _ h => h) (Or.inl ⟨by kernel_rfl, ?_⟩) (by assumption) ?_
              rotate_left
              · ((intro w hSw; go_simp) <;> with_reducible rfl)
              try simp only [Act.put, List.setIfInBounds_toArray, List.set_cons_zero, List.set_cons_succ]
              refine Rk.takeP (i := 19) (v := ?_) rfl (by kernel_rfl) (by kernel_rfl) (by kernel_rfl) (by kernel_rfl) (fun _ _ _ h => h) (Or.inl ⟨by kernel_rfl, ?_⟩) (by assumption) ?_
              rotate_left
              · ((intro w hSw; go_simp) <;> with_reducible rfl)
              try simp only [Act.put, List.setIfInBounds_toArray, List.set_cons_zero, List.set_cons_succ]
              refine Rk.take [21] (i := 20) (v := ?_) rfl (by kernel_rfl) (by kernel_rfl) (by kernel_rfl) (by kernel_rfl) (by kernel_rfl) (fun _ _ _ h => h) (Or.inl ⟨by kernel_rfl, ?_⟩) (by assumption) ?_
              rotate_left
              · ((intro w hSw; (try dsimp only at hSw); go_simp) <;> with_reducible rfl)
              try simp only [Act.put, List.setIfInBounds_toArray, List.set_cons_zero, List.set_cons_succ]
              refine Rk.tail [21, 22, 23, 24, 25] [_, _, _, _, _] (by kernel_rfl) (by kernel_rfl) rfl (by decide) ?_
              go_wp2_with (go_at_call 25; (with_reducible refine (CC.out _).mono ?_); rintro e u ⟨rfl, hb⟩; have BU := Lib.hid (hBj.out.trans ((hHeld.2.2.2.2.2.2.2.2.2.trans hb).mono hBj.out.size)); clear hb)
              go_roundw
              case rel => exact ⟨j + 1, false, by go_num, rfl, by omega, (Lib.hid (by first | exact HQ2.out | simpa using HQ2.out)), BU⟩
              case measure => (simp [intOf] <;> omega)
end Go.Proofs.Ytghnigmmkenddaa.Ar
