/- The cache: its state and the reference's. -/
import Derived.Test.YtlmbjipcdhenlaaC14i
import Derived.Test.YtlmbjipcdhenlaaC8i
namespace Go.Proofs.Ytlmbjipcdhenlaa.Ci
open Go.ChangeShapes Go.WideShapes Go.ChangeAt Go.RowKit
open Go.Proofs.Ytlmbjipcdhenlaa.Ca
set_option linter.unusedVariables false
set_option linter.unusedSimpArgs false
set_option maxRecDepth 100000 in
set_option maxHeartbeats 8000000 in
theorem stringsEq (p q : Option Addr) (L : List ByteArray) (c d : Nat) (w : World) (hn : L.length ≤ maxLen) (RA : Hid (SlT w p L)) (RB : Hid (SlT w q L)) :
    Calls Try.prog 29 #[.slice p L.length c, .slice q L.length d] w fun e w' => e = .returned (.bool true) ∧ Below w.heap.size w w' := by
  unfold maxLen at hn
  go_enter Try.func29, Try.ntmps29
  go_wp2
  go_loopw [5] (fun i wr => ∃ j r : Nat, i = .int .i64 (j : Int) ∧ j ≤ L.length ∧ wr = w.drewN r) (fun i _ => L.length - (intOf i).toNat)
  case atStart => exact ⟨0, 0, rfl, by omega, rfl⟩
  case round =>
    obtain ⟨j, r, rfl, hk, rfl⟩ := hrel
    have k0 : (0 : Int) ≤ j := by omega
    by_cases hlt : j < L.length
    · obtain ⟨b, o, rfl, c0⟩ := RA.out j hlt
      obtain ⟨b', o', rfl, d0⟩ := RB.out j hlt
      obtain ⟨t, ht⟩ : ∃ x, L.getD j ByteArray.empty = x := ⟨_, rfl⟩
      rw [ht] at c0 d0
      have k1 : (j : Int) < L.length := by omega
      clear ht
      go_wp2
      go_quiet (fail)
      go_wp2
      go_roundw
      case rel => exact ⟨j + 1, _, by go_num, by omega, rfl⟩
      case measure => simp [intOf]; omega
    · have k1 : ¬ (j : Int) < L.length := by omega
      go_wp2
      go_ret
      exact ⟨rfl, below_drewN (Below.refl _ _) _⟩
def KR (L : List Mo) (w : World) (e : Ending) (w' : World) : Prop := ∃ v, e = .returned v ∧ w'.ownsRow w.heap.size 9 1 v L.length (L.map fun x => .string x.1) ∧ Below w.heap.size w w'
set_option maxRecDepth 100000 in
set_option maxHeartbeats 8000000 in
theorem rkeys1 (xb B : Nat) (most : Int) (L : List Mo) (hits misses : Nat) (va : Value) (w : World) (R : Hid (RX w xb B most L hits misses va)) (hn : L.length ≤ 2000) : Calls Try.prog 31 #[.pointer (some ⟨xb, 0, none⟩)] w (KR L w) := by
  obtain ⟨p, c, rfl, hc, hcm, hS⟩ := row_any R.out.row
  obtain ⟨i0, hi, hz0, hz1, hz2⟩ := info_parts infoStr
  have hxb := lt_cell R.out.m
  have ca := R.out.a
  have HS := Lib.hid hS
  clear hS
  go_enter Try.func31, Try.ntmps31
  go_wp2
  go_loopw [3, 4] (fun lv i wr => ∃ j : Nat, i = .int .i64 (j : Int) ∧ j ≤ L.length ∧ Below w.heap.size w wr ∧ Hid (wr.ownsRow w.heap.size 9 1 lv j ((L.take j).map fun x => .string x.1))) (fun _ i _ => L.length - (intOf i).toNat)
  case atStart => exact ⟨0, rfl, by omega, Below.refl _ _, Lib.hid (World.ownsRow_nil _ _ _ _)⟩
  case round =>
    obtain ⟨j, rfl, hj, hB, hO⟩ := hrel
    have j0 : (0 : Int) ≤ j := by omega
    have ca2 := kpc hB hxb ca
    by_cases hlt : j < L.length
    · obtain ⟨b, o, rfl, c0, c1⟩ := SlM.keep hB HS.out j hlt
      have hx : L[j]? = some L[j] := List.getElem?_eq_getElem hlt
      have htk := List.take_succ_eq_append_getElem hlt
      rw [show L.getD j mo0 = L[j] by unfold List.getD; rw [hx]; rfl] at c0 c1
      obtain ⟨⟨k, v⟩, hv⟩ : ∃ x, L[j] = x := ⟨_, rfl⟩
      rw [hv] at c0 c1 htk
      simp only at c0 c1
      have HTK := Lib.hid (show (L.take (j + 1)).map (fun x => Value.string x.1) = (L.take j).map (fun x => Value.string x.1) ++ [.string k] by rw [htk, List.map_append]; rfl)
      have j1 : (j : Int) < L.length := by omega
      clear hx htk hv c1
      have BA := (Below.refl wr.heap.size wr).alloc (Nat.le_refl _) (Obj.cells #[Value.string k] 9)
      have KA := hB.trans (BA.mono hB.size)
      have OA := Lib.hid (hO.out.alloc (Obj.cells #[Value.string k] 9))
      have a0 : (wr.alloc (Obj.cells #[Value.string k] 9)).cell? ⟨wr.heap.size, 0, none⟩ = some (.string k) := by go_cell
      have hks2 := KA.size
      clear BA hO
      go_wp2_with (at_builtin; refine wpList_append_own _ rfl _ _ 58 rfl w.heap.size 9 i0 (.string ⟨#[]⟩) 1 16 Try.underlying58 hi hz0 hz1 hz2 rfl (by decide) _ _ _ rfl OA.out ⟨wr.heap.size, 0, none⟩ 1 1 [.string k] rfl rfl ?_ ?_ ?_ ?_ ?_ ?_)
      · intro q' x' hx'
        rcases q' with _ | q'
        · cases hx'; exact a0
        · simp at hx'
      · intro x' hx'
        simp at hx'
        subst hx'
        rfl
      · unfold maxLen; omega
      · omega
      · exact hks2
      intro v' w5 hown' hgrow _
      have K5 := KA.grown hgrow KA.size (fun q' hq' => (OA.out.lt q' hq').1)
      have hown2 : Hid (w5.ownsRow w.heap.size 9 1 v' (j + 1) ((L.take (j + 1)).map fun x => .string x.1)) := Lib.hid (by
        rw [HTK.out]; simpa [List.map_take] using hown')
      obtain ⟨q', c', rfl⟩ := own_slice hown2.out
      clear hown' hgrow OA a0 KA
      go_wp2
      go_roundw
      case rel => exact ⟨j + 1, by go_num, by omega, K5, hown2⟩
      case measure => simp [intOf]; omega
    · have j1 : ¬ (j : Int) < L.length := by omega
      obtain rfl : j = L.length := by omega
      have hO2 := hO.out
      rw [List.take_length] at hO2
      have HO2 := Lib.hid hO2
      clear hO hO2
      go_wp2
      go_ret
      exact ⟨_, rfl, HO2.out, hB⟩
theorem rnew1 (m : Int) (w : World) (h1 : 1 ≤ m) (h2 : m ≤ 1024) : Calls Try.prog 15 #[.int .i64 m] w fun e w' => e = .returned (.tuple #[.agg #[.int .i64 m, .int .i64 0, .int .i64 0, .slice none 0 0], .int .i64 0]) ∧ Below w.heap.size w w' := by
  go_enter Try.func15, Try.ntmps15
  go_wp2
  exact bodyPost_ret (v := .tuple #[.agg #[.int .i64 m, .int .i64 0, .int .i64 0, .slice none 0 0], .int .i64 0]) (by simp [results, Try.results15, go_sem]) rfl ⟨rfl, by first | exact (Below.refl _ _).alloc (Nat.le_refl _) _ | exact (((((Below.refl _ _).alloc (Nat.le_refl _) _).setCell (Nat.le_refl _) _).setCell (Nat.le_refl _) _).setCell (Nat.le_refl _) _).setCell (Nat.le_refl _) _⟩
theorem rnew_bad (m : Int) (w : World) (h : m < 1 ∨ 1024 < m) : Calls Try.prog 15 #[.int .i64 m] w fun e w' => e = .returned (.tuple #[.agg #[.int .i64 0, .int .i64 0, .int .i64 0, .slice none 0 0], .int .i64 1]) ∧ Below w.heap.size w w' := by
  rcases h with h | h
  · go_enter Try.func15, Try.ntmps15
    go_wp2
    exact bodyPost_ret (v := .tuple #[.agg #[.int .i64 0, .int .i64 0, .int .i64 0, .slice none 0 0], .int .i64 1]) (by simp [results, Try.results15, go_sem]) rfl ⟨rfl, by first | exact (Below.refl _ _).alloc (Nat.le_refl _) _ | exact (((((Below.refl _ _).alloc (Nat.le_refl _) _).setCell (Nat.le_refl _) _).setCell (Nat.le_refl _) _).setCell (Nat.le_refl _) _).setCell (Nat.le_refl _) _⟩
  · have h1 : ¬ m < 1 := by omega
    go_enter Try.func15, Try.ntmps15
    go_wp2
    exact bodyPost_ret (v := .tuple #[.agg #[.int .i64 0, .int .i64 0, .int .i64 0, .slice none 0 0], .int .i64 1]) (by simp [results, Try.results15, go_sem]) rfl ⟨rfl, by first | exact (Below.refl _ _).alloc (Nat.le_refl _) _ | exact (((((Below.refl _ _).alloc (Nat.le_refl _) _).setCell (Nat.le_refl _) _).setCell (Nat.le_refl _) _).setCell (Nat.le_refl _) _).setCell (Nat.le_refl _) _⟩
set_option maxRecDepth 100000 in
set_option maxHeartbeats 16000000 in
theorem state1 (b base : Nat) (most : Int) (L : List Mo) (hits misses nb xb B : Nat) (va : Value) (w : World) (C : CV w b base most L hits misses nb) (R : RX w xb B most L hits misses va) (hn : L.length ≤ 2000) :
    Calls Try.prog 22 #[.pointer (some ⟨b, 0, none⟩), .pointer (some ⟨xb, 0, none⟩)] w fun e w' => e = .returned (.bool true) ∧ Below w.heap.size w w' := by
  have CS := Lib.hid (statsV b base most L hits misses nb w C)
  have CL := Lib.hid fun u (hu : Below w.heap.size w u) => lenV1 b base most L hits misses nb u (C.keep hu)
  have CK := Lib.hid fun u (hu : Below w.heap.size w u) => keysV b base most L hits misses nb u (C.keep hu) hn
  have CR := Lib.hid fun u (hu : Below w.heap.size w u) => rkeys1 xb B most L hits misses va u (Lib.hid (R.below hu)) hn
  obtain ⟨pa, ca, rfl, _, _, _⟩ := row_any R.row
  have HLN := Lib.hid (show L.length ≤ maxLen by unfold maxLen; omega)
  have x1 := R.h
  have x2 := R.s
  have x3 := R.a
  clear C R
  unfold KV at CK
  unfold KR at CR
  go_enter Try.func22, Try.ntmps22
  go_wp2_with fail
  refine CS.out.mono ?_
  rintro e w1 ⟨rfl, nq, rfl⟩
  have KB : Below w.heap.size w (w.drewN nq).drew := (below_drewN (Below.refl _ _) nq).drew
  have y1 : (w.drewN nq).drew.cell? ⟨xb, 1, none⟩ = some (.int .i64 (hits : Int)) := x1
  have y2 : (w.drewN nq).drew.cell? ⟨xb, 2, none⟩ = some (.int .i64 (misses : Int)) := x2
  have y3 : (w.drewN nq).drew.cell? ⟨xb, 3, none⟩ = some (.slice pa L.length ca) := x3
  clear CS x1 x2 x3
  generalize w.drewN nq = w1 at *
  go_wp2_with fail
  have hz9 : w1.drew.cell? ⟨xb, 1, none⟩ = some (.int .i64 (hits : Int)) ∧ w1.drew.cell? ⟨xb, 2, none⟩ = some (.int .i64 (misses : Int)) ∧ w1.drew.cell? ⟨xb, 3, none⟩ = some (.slice pa L.length ca) := ⟨y1, y2, y3⟩
  refine Rk.begin (S := fun wS => wS.cell? ⟨xb, 1, none⟩ = some (.int .i64 (hits : Int)) ∧ wS.cell? ⟨xb, 2, none⟩ = some (.int .i64 (misses : Int)) ∧ wS.cell? ⟨xb, 3, none⟩ = some (.slice pa L.length ca)) 31 (by kernel_rfl) hz9 (fun hHeld => ?_)
  refine Rk.takeP (i := 0) (v := ?_) rfl (by kernel_rfl) (by kernel_rfl) (by kernel_rfl) (by kernel_rfl) (fun _ _ _ h => h) (Or.inl ⟨by kernel_rfl, ?_⟩) (by assumption) ?_
  rotate_left
  · ((intro w hSw; go_simp) <;> with_reducible rfl)
  try simp only [Act.put, List.setIfInBounds_toArray, List.set_cons_zero, List.set_cons_succ]
  refine Rk.takeP (i := 2) (v := ?_) rfl (by kernel_rfl) (by kernel_rfl) (by kernel_rfl) (by kernel_rfl) (fun _ _ _ h => h) (Or.inl ⟨by kernel_rfl, ?_⟩) (by assumption) ?_
  rotate_left
  · ((intro w hSw; go_simp) <;> with_reducible rfl)
  try simp only [Act.put, List.setIfInBounds_toArray, List.set_cons_zero, List.set_cons_succ]
  refine Rk.takeP (i := 3) (v := ?_) rfl (by kernel_rfl) (by kernel_rfl) (by kernel_rfl) (by kernel_rfl) (fun _ _ _ h => h) (Or.inl ⟨by kernel_rfl, ?_⟩) (by assumption) ?_
  rotate_left
  · ((intro w hSw; go_simp) <;> with_reducible rfl)
  try simp only [Act.put, List.setIfInBounds_toArray, List.set_cons_zero, List.set_cons_succ]
  refine Rk.takeP (i := 4) (v := ?_) rfl (by kernel_rfl) (by kernel_rfl) (by kernel_rfl) (by kernel_rfl) (fun _ _ _ h => h) (Or.inl ⟨by kernel_rfl, ?_⟩) (by assumption) ?_
  rotate_left
  · ((intro w hSw; go_simp) <;> with_reducible rfl)
  try simp only [Act.put, List.setIfInBounds_toArray, List.set_cons_zero, List.set_cons_succ]
  refine Rk.take [31] (i := 5) (v := ?_) rfl (by kernel_rfl) (by kernel_rfl) (by kernel_rfl) (by kernel_rfl) (by kernel_rfl) (fun _ _ _ h => h) (Or.inl ⟨by kernel_rfl, ?_⟩) (by assumption) ?_
  rotate_left
  · ((intro w hSw; (try dsimp only at hSw); go_simp) <;> with_reducible rfl)
  try simp only [Act.put, List.setIfInBounds_toArray, List.set_cons_zero, List.set_cons_succ]
  refine Rk.takeP (i := 6) (v := ?_) rfl (by kernel_rfl) (by kernel_rfl) (by kernel_rfl) (by kernel_rfl) (fun _ _ _ h => h) (Or.inl ⟨by kernel_rfl, ?_⟩) (by assumption) ?_
  rotate_left
  · ((intro w hSw; go_simp) <;> with_reducible rfl)
  try simp only [Act.put, List.setIfInBounds_toArray, List.set_cons_zero, List.set_cons_succ]
  refine Rk.one (i := 1) (by kernel_rfl) rfl (fun KK hK => ?_)
  rw [if_pos (by kernel_rfl)]
  go_simp
  ((with_reducible refine (CL.out _ KB).mono ?_); rintro e uL ⟨rfl, rfl⟩)
  refine hK.out _ _ hHeld (fun hHeld => ?_)
  clear hK KK
  refine Rk.takeP (i := 7) (v := ?_) rfl (by kernel_rfl) (by kernel_rfl) (by kernel_rfl) (by kernel_rfl) (fun _ _ _ h => h) (Or.inl ⟨by kernel_rfl, ?_⟩) (by assumption) ?_
  rotate_left
  · ((intro w hSw; go_simp) <;> with_reducible rfl)
  try simp only [Act.put, List.setIfInBounds_toArray, List.set_cons_zero, List.set_cons_succ]
  refine Rk.takeP (i := 8) (v := ?_) rfl (by kernel_rfl) (by kernel_rfl) (by kernel_rfl) (by kernel_rfl) (fun _ _ _ h => h) (Or.inl ⟨by kernel_rfl, ?_⟩) (by assumption) ?_
  rotate_left
  · ((intro w hSw; go_simp) <;> with_reducible rfl)
  try simp only [Act.put, List.setIfInBounds_toArray, List.set_cons_zero, List.set_cons_succ]
  refine Rk.takeP (i := 9) (v := ?_) rfl (by kernel_rfl) (by kernel_rfl) (by kernel_rfl) (by kernel_rfl) (fun _ _ _ h => h) (Or.inl ⟨by kernel_rfl, ?_⟩) (by assumption) ?_
  rotate_left
  · ((intro w hSw; go_simp) <;> with_reducible rfl)
  try simp only [Act.put, List.setIfInBounds_toArray, List.set_cons_zero, List.set_cons_succ]
  refine Rk.takeP (i := 11) (v := ?_) rfl (by kernel_rfl) (by kernel_rfl) (by kernel_rfl) (by kernel_rfl) (fun _ _ _ h => h) (Or.inl ⟨by kernel_rfl, ?_⟩) (by assumption) ?_
  rotate_left
  · ((intro w hSw; go_simp) <;> with_reducible rfl)
  try simp only [Act.put, List.setIfInBounds_toArray, List.set_cons_zero, List.set_cons_succ]
  refine Rk.one (i := 10) (by kernel_rfl) rfl (fun KK hK => ?_)
  rw [if_pos (by kernel_rfl)]
  go_simp
  ((with_reducible refine (CK.out _ KB).mono ?_); rintro e uK ⟨v1, rfl, hO1, hb⟩)
  obtain ⟨p1, c1, rfl, _, s1, _⟩ := own_slT (l := L.map (·.1)) (by rw [List.length_map, List.map_map]; exact hO1)
  rw [List.length_map]
  replace KB := KB.trans (hb.mono KB.size)
  refine hK.out _ _ ⟨kpc hb (lt_cell hHeld.1) hHeld.1, kpc hb (lt_cell hHeld.2.1) hHeld.2.1, kpc hb (lt_cell hHeld.2.2) hHeld.2.2⟩ (fun hHeld => ?_)
  clear hb hO1
  clear hK KK
  refine Rk.one (i := 12) (by kernel_rfl) rfl (fun KK hK => ?_)
  rw [if_pos (by kernel_rfl)]
  go_simp
  ((with_reducible refine (CR.out _ KB).mono ?_); rintro e uR ⟨v2, rfl, hO2, hb⟩)
  obtain ⟨p2, c2, rfl, _, s2, _⟩ := own_slT (l := L.map (·.1)) (by rw [List.length_map, List.map_map]; exact hO2)
  rw [List.length_map]
  replace s1 := SlT.keep hb s1
  replace KB := KB.trans (hb.mono KB.size)
  refine hK.out _ _ ⟨kpc hb (lt_cell hHeld.1) hHeld.1, kpc hb (lt_cell hHeld.2.1) hHeld.2.1, kpc hb (lt_cell hHeld.2.2) hHeld.2.2⟩ (fun hHeld => ?_)
  clear hb hO2
  clear hK KK
  refine Rk.one (i := 13) (by kernel_rfl) rfl (fun KK hK => ?_)
  rw [if_pos (by kernel_rfl)]
  go_simp
  have CE := stringsEq p1 p2 (L.map (·.1)) c1 c2 uR (by rw [List.length_map]; exact HLN.out) (Lib.hid s1) (Lib.hid s2)
  rw [List.length_map] at CE
  ((with_reducible refine CE.mono ?_); rintro e uS ⟨rfl, hb⟩)
  replace KB := KB.trans (hb.mono KB.size)
  refine hK.out _ _ ⟨kpc hb (lt_cell hHeld.1) hHeld.1, kpc hb (lt_cell hHeld.2.1) hHeld.2.1, kpc hb (lt_cell hHeld.2.2) hHeld.2.2⟩ (fun hHeld => ?_)
  clear hb s1 s2
  clear hK KK
  refine Rk.takeP (i := 14) (v := ?_) rfl (by kernel_rfl) (by kernel_rfl) (by kernel_rfl) (by kernel_rfl) (fun _ _ _ h => h) (Or.inl ⟨by kernel_rfl, ?_⟩) (by assumption) ?_
  rotate_left
  · ((intro w hSw; go_simp) <;> with_reducible rfl)
  try simp only [Act.put, List.setIfInBounds_toArray, List.set_cons_zero, List.set_cons_succ]
  refine Rk.takeP (i := 15) (v := ?_) rfl (by kernel_rfl) (by kernel_rfl) (by kernel_rfl) (by kernel_rfl) (fun _ _ _ h => h) (Or.inl ⟨by kernel_rfl, ?_⟩) (by assumption) ?_
  rotate_left
  · ((intro w hSw; go_simp) <;> with_reducible rfl)
  try simp only [Act.put, List.setIfInBounds_toArray, List.set_cons_zero, List.set_cons_succ]
  refine Rk.takeP (i := 16) (v := ?_) rfl (by kernel_rfl) (by kernel_rfl) (by kernel_rfl) (by kernel_rfl) (fun _ _ _ h => h) (Or.inl ⟨by kernel_rfl, ?_⟩) (by assumption) ?_
  rotate_left
  · ((intro w hSw; go_simp) <;> with_reducible rfl)
  try simp only [Act.put, List.setIfInBounds_toArray, List.set_cons_zero, List.set_cons_succ]
  refine Rk.takeP (i := 17) (v := ?_) rfl (by kernel_rfl) (by kernel_rfl) (by kernel_rfl) (by kernel_rfl) (fun _ _ _ h => h) (Or.inl ⟨by kernel_rfl, ?_⟩) (by assumption) ?_
  rotate_left
  · ((intro w hSw; go_simp) <;> with_reducible rfl)
  try simp only [Act.put, List.setIfInBounds_toArray, List.set_cons_zero, List.set_cons_succ]
  refine Rk.takeP (i := 18) (v := ?_) rfl (by kernel_rfl) (by kernel_rfl) (by kernel_rfl) (by kernel_rfl) (fun _ _ _ h => h) (Or.inl ⟨by kernel_rfl, ?_⟩) (by assumption) ?_
  rotate_left
  · ((intro w hSw; go_simp) <;> with_reducible rfl)
  try simp only [Act.put, List.setIfInBounds_toArray, List.set_cons_zero, List.set_cons_succ]
  refine Rk.takeP (i := 19) (v := ?_) rfl (by kernel_rfl) (by kernel_rfl) (by kernel_rfl) (by kernel_rfl) (fun _ _ _ h => h) (Or.inl ⟨by kernel_rfl, ?_⟩) (by assumption) ?_
  rotate_left
  · ((intro w hSw; go_simp) <;> with_reducible rfl)
  try simp only [Act.put, List.setIfInBounds_toArray, List.set_cons_zero, List.set_cons_succ]
  refine Rk.take [31] (i := 20) (v := ?_) rfl (by kernel_rfl) (by kernel_rfl) (by kernel_rfl) (by kernel_rfl) (by kernel_rfl) (fun _ _ _ h => h) (Or.inl ⟨by kernel_rfl, ?_⟩) (by assumption) ?_
  rotate_left
  · ((intro w hSw; (try dsimp only at hSw); go_simp) <;> with_reducible rfl)
  try simp only [Act.put, List.setIfInBounds_toArray, List.set_cons_zero, List.set_cons_succ]
  refine Rk.takeP (i := 21) (v := ?_) rfl (by kernel_rfl) (by kernel_rfl) (by kernel_rfl) (by kernel_rfl) (fun _ _ _ h => h) (Or.inl ⟨by kernel_rfl, ?_⟩) (by assumption) ?_
  rotate_left
  · ((intro w hSw; go_simp) <;> with_reducible rfl)
  try simp only [Act.put, List.setIfInBounds_toArray, List.set_cons_zero, List.set_cons_succ]
  refine Rk.takeP (i := 22) (v := ?_) rfl (by kernel_rfl) (by kernel_rfl) (by kernel_rfl) (by kernel_rfl) (fun _ _ _ h => h) (Or.inl ⟨by kernel_rfl, ?_⟩) (by assumption) ?_
  rotate_left
  · ((intro w hSw; go_simp) <;> with_reducible rfl)
  try simp only [Act.put, List.setIfInBounds_toArray, List.set_cons_zero, List.set_cons_succ]
  refine Rk.takeP (i := 23) (v := ?_) rfl (by kernel_rfl) (by kernel_rfl) (by kernel_rfl) (by kernel_rfl) (fun _ _ _ h => h) (Or.inl ⟨by kernel_rfl, ?_⟩) (by assumption) ?_
  rotate_left
  · ((intro w hSw; go_simp) <;> with_reducible rfl)
  try simp only [Act.put, List.setIfInBounds_toArray, List.set_cons_zero, List.set_cons_succ]
  refine Rk.takeP (i := 24) (v := ?_) rfl (by kernel_rfl) (by kernel_rfl) (by kernel_rfl) (by kernel_rfl) (fun _ _ _ h => h) (Or.inl ⟨by kernel_rfl, ?_⟩) (by assumption) ?_
  rotate_left
  · ((intro w hSw; go_simp) <;> with_reducible rfl)
  try simp only [Act.put, List.setIfInBounds_toArray, List.set_cons_zero, List.set_cons_succ]
  refine Rk.takeP (i := 25) (v := ?_) rfl (by kernel_rfl) (by kernel_rfl) (by kernel_rfl) (by kernel_rfl) (fun _ _ _ h => h) (Or.inl ⟨by kernel_rfl, ?_⟩) (by assumption) ?_
  rotate_left
  · ((intro w hSw; go_simp) <;> with_reducible rfl)
  try simp only [Act.put, List.setIfInBounds_toArray, List.set_cons_zero, List.set_cons_succ]
  refine Rk.takeP (i := 26) (v := ?_) rfl (by kernel_rfl) (by kernel_rfl) (by kernel_rfl) (by kernel_rfl) (fun _ _ _ h => h) (Or.inl ⟨by kernel_rfl, ?_⟩) (by assumption) ?_
  rotate_left
  · ((intro w hSw; go_simp) <;> with_reducible rfl)
  try simp only [Act.put, List.setIfInBounds_toArray, List.set_cons_zero, List.set_cons_succ]
  refine Rk.takeP (i := 27) (v := ?_) rfl (by kernel_rfl) (by kernel_rfl) (by kernel_rfl) (by kernel_rfl) (fun _ _ _ h => h) (Or.inl ⟨by kernel_rfl, ?_⟩) (by assumption) ?_
  rotate_left
  · ((intro w hSw; go_simp) <;> with_reducible rfl)
  try simp only [Act.put, List.setIfInBounds_toArray, List.set_cons_zero, List.set_cons_succ]
  refine Rk.take [31] (i := 28) (v := ?_) rfl (by kernel_rfl) (by kernel_rfl) (by kernel_rfl) (by kernel_rfl) (by kernel_rfl) (fun _ _ _ h => h) (Or.inl ⟨by kernel_rfl, ?_⟩) (by assumption) ?_
  rotate_left
  · ((intro w hSw; (try dsimp only at hSw); go_simp) <;> with_reducible rfl)
  try simp only [Act.put, List.setIfInBounds_toArray, List.set_cons_zero, List.set_cons_succ]
  refine Rk.takeP (i := 29) (v := ?_) rfl (by kernel_rfl) (by kernel_rfl) (by kernel_rfl) (by kernel_rfl) (fun _ _ _ h => h) (Or.inl ⟨by kernel_rfl, ?_⟩) (by assumption) ?_
  rotate_left
  · ((intro w hSw; go_simp) <;> with_reducible rfl)
  try simp only [Act.put, List.setIfInBounds_toArray, List.set_cons_zero, List.set_cons_succ]
  refine Rk.takeP (i := 30) (v := ?_) rfl (by kernel_rfl) (by kernel_rfl) (by kernel_rfl) (by kernel_rfl) (fun _ _ _ h => h) (Or.inl ⟨by kernel_rfl, ?_⟩) (by assumption) ?_
  rotate_left
  · ((intro w hSw; go_simp) <;> with_reducible rfl)
  try simp only [Act.put, List.setIfInBounds_toArray, List.set_cons_zero, List.set_cons_succ]
  refine Rk.tail [31] [_] (by kernel_rfl) (by kernel_rfl) rfl (by decide) ?_
  clear hHeld hz9
  go_wp2
  go_ret
  exact ⟨rfl, KB⟩
/-- Behind an operation of the reference. -/
theorem pair_next {w2 w3 : World} {b base xb B nb : Nat} {n most : Int} {L L' : List Mo} {h m h' m' : Nat} {va : Value} (C : CS w2 b base n L h m nb (fun k => k = xb ∨ va.ownBlock = some k)) (hL : LW xb B most L' h' m' va w2 w3) :
    ∃ va', RX w3 xb B most L' h' m' va' ∧ CS w3 b base n L h m nb (fun k => k = xb ∨ va'.ownBlock = some k) := by
  obtain ⟨g, va', R, hv⟩ := hL
  refine ⟨va', R, (C.other (w' := w3) (fun k hk hnS => g.block k hk (fun e => hnS (.inl (by simpa using e)))) g.size).mono ?_⟩
  rintro k (rfl | hk)
  · exact .inl (.inl rfl)
  · rcases hv k hk with h | h
    · exact .inl (.inr h)
    · exact .inr ⟨h, (R.row.lt k hk).2⟩
theorem CS.cnt {w : World} {b base : Nat} {most : Int} {L : List Mo} {hits misses nb : Nat} {S : Nat → Prop} (C : CS w b base most L hits misses nb S) : hits ≤ nb ∧ misses ≤ nb := by
  obtain ⟨X, h, _⟩ := C
  exact h.cnt
end Go.Proofs.Ytlmbjipcdhenlaa.Ci
