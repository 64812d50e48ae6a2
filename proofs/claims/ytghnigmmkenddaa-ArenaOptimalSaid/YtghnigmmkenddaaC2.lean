/- First fit. -/
import Derived.Test.YtghnigmmkenddaaC2m
import Derived.Deep.Onto
import Derived.Deep.Cut
import Derived.Laws.AppendOwn
namespace Go.Proofs.Ytghnigmmkenddaa.Ar
open Go.ChangeShapes Go.WideShapes Go.ChangeAt Go.RowKit
open Go.Proofs.Ytghnigmmkenddaa.Lv Go.Proofs.Ytghnigmmkenddaa.Nm
set_option linter.unusedVariables false
set_option linter.unusedSimpArgs false

theorem made3 (n : Nat) : (madeCells (Value.agg #[.string ⟨#[]⟩, .int .i64 0, .int .i64 0]).cells (n * 3)).toList = rowS (List.replicate n st0) := by
  refine List.ext_getElem? fun i => ?_
  rcases Nat.lt_or_ge i (n * 3) with h | h
  · have hj : i / 3 < (List.replicate n st0).length := by rw [List.length_replicate]; omega
    obtain ⟨v0, v1, v2⟩ := rowS_get (List.replicate n st0) (i / 3) hj
    have e : (List.replicate n st0).getD (i / 3) st0 = st0 := by
      rw [List.length_replicate] at hj
      simp [List.getD, List.getElem?_replicate, hj]
    rw [e] at v0 v1 v2
    have e1 : (madeCells (Value.agg #[.string ⟨#[]⟩, .int .i64 0, .int .i64 0]).cells (n * 3)).toList[i]? = some ((Value.agg #[.string ⟨#[]⟩, .int .i64 0, .int .i64 0]).cells[i % 3]!) := by
      simp [madeCells, h, Value.cells]
    rw [e1]
    rcases (show i % 3 = 0 ∨ i % 3 = 1 ∨ i % 3 = 2 by omega) with h3 | h3 | h3
    · rw [h3, show i = i / 3 * 3 by omega, v0]; rfl
    · rw [h3, show i = i / 3 * 3 + 1 by omega, v1]; rfl
    · rw [h3, show i = i / 3 * 3 + 2 by omega, v2]; rfl
  · rw [List.getElem?_eq_none (by simp [madeCells]; omega), List.getElem?_eq_none (by rw [rowS_len]; simp; omega)]
theorem SlL_at {w : World} {p : Option Addr} {xs : List Lf} (h : SlL w p xs) {i n : Nat} (hn : xs.length = n) (hi : i < n) : ∃ b o, p = some ⟨b, o, none⟩ ∧ b < w.heap.size ∧ w.cell? ⟨b, o + i * 4, none⟩ = some (.string (xs.getD i lf0).1) ∧ w.cell? ⟨b, o + i * 4 + 1, none⟩ = some (.int .i64 (xs.getD i lf0).2.1) ∧ w.cell? ⟨b, o + i * 4 + 2, none⟩ = some (.int .i64 (xs.getD i lf0).2.2.1) ∧ w.cell? ⟨b, o + i * 4 + 3, none⟩ = some (.int .i64 (xs.getD i lf0).2.2.2) := by
  obtain ⟨b, o, e, c0, c1, c2, c3⟩ := h i (by omega)
  exact ⟨b, o, e, by have := World.block_lt_of_cell? w _ c0; simpa using this, c0, c1, c2, c3⟩
theorem kpb {B : Nat} {w w' : World} {b o : Nat} {v : Value} (h : Below B w w') (hb : b < B) (hc : w.cell? ⟨b, o, none⟩ = some v) : w'.cell? ⟨b, o, none⟩ = some v := (h.cell (p := ⟨b, o, none⟩) hb).trans hc
theorem getD_mem0 {ks : List Nat} {i : Nat} (h : i < ks.length) : ks.getD i 0 ∈ ks := by
  have e1 : ks.getD i 0 = ks[i] := by unfold List.getD; rw [List.getElem?_eq_getElem h]; rfl
  rw [e1]; exact List.getElem_mem h
theorem take_snoc {ks : List Nat} {i : Nat} (h : i < ks.length) : ks.take (i + 1) = ks.take i ++ [ks.getD i 0] := by
  rw [List.take_succ_eq_append_getElem h]
  have e1 : ks.getD i 0 = ks[i] := by unfold List.getD; rw [List.getElem?_eq_getElem h]; rfl
  rw [e1]
theorem drop_cons0 {ks : List Nat} {i : Nat} (h : i < ks.length) : ks.drop i = ks.getD i 0 :: ks.drop (i + 1) := by
  rw [List.drop_eq_getElem_cons h]
  have e1 : ks.getD i 0 = ks[i] := by unfold List.getD; rw [List.getElem?_eq_getElem h]; rfl
  rw [e1]

set_option maxRecDepth 100000 in
set_option maxHeartbeats 8000000 in
/-- First fit. -/
theorem firstFit (p : Option Addr) (xs : List Lf) (c n g : Nat) (ks : List Nat) (w : World) (HN : Hid (xs.length = n)) (hn : n ≤ 60) (RA : Hid (SlL w p xs)) (HZ : Hid (∀ i, i < n → 1 ≤ (xs.getD i lf0).2.2.2 ∧ (xs.getD i lf0).2.2.2 ≤ 4096)) (HK : Hid (ks.length = n ∧ ∀ k ∈ ks, k < n)) (RK : Hid (RI w g ks)) (RG : Hid (n = 0 ∨ g < w.heap.size)) :
    Calls Try.prog 20 #[.slice p n c, .slice (some ⟨g, 0, none⟩) n n] w fun e w' => ∃ v, e = .returned (.tuple #[v, .int .i64 (ffG xs [] ks (List.replicate n st0) 0).2]) ∧ Below w.heap.size w w' ∧ w'.ownsRow w.heap.size 39 3 v n (rowS (ffG xs [] ks (List.replicate n st0) 0).1) := by
  obtain ⟨RES, hRES⟩ : ∃ RES, ffG xs [] ks (List.replicate n st0) 0 = RES := ⟨_, rfl⟩
  rw [hRES]
  have HRES := Lib.hid hRES
  clear hRES
  obtain ⟨i0, hi, hz0, hz1, hz2⟩ := info_parts info39
  have OV := Lib.hid over1
  unfold Lv4 at OV
  go_enter Try.func20, Try.ntmps20
  go_wp2_with (at_make; refine wpList_make_full _ rfl _ _ 25 rfl w.heap.size 39 i0 (.agg #[.string ⟨#[]⟩, .int .i64 0, .int .i64 0]) 3 Try.underlying25 hi hz0 hz1 .i64 .i64 _ _ n rfl rfl rfl rfl (by rw [hz2]; omega) (by unfold maxLen; omega) (Nat.le_refl _) ?_; intro w1 hown hg)
  have hB1 : Below w.heap.size w w1 := Below.grown (Below.refl _ _) hg (Nat.le_refl _) (fun j hj => by cases hj)
  have hO1 : Hid (w1.ownsRow w.heap.size 39 3 (.slice (some ⟨w.heap.size, 0, none⟩) n n) n (rowS (List.replicate n st0))) := Lib.hid (by rw [made3] at hown; exact hown)
  have HB1 := Lib.hid hB1
  have HI39 := Lib.hid (And.intro hi (And.intro hz0 (And.intro hz1 hz2)))
  clear hown hg hB1 hi hz0 hz1 hz2
  go_loopw [7, 23] (fun sv iv wr => ∃ (i : Nat) (L : List St) (s : Int), iv = .int .i64 (i : Int) ∧ sv = .int .i64 s ∧ i ≤ n ∧ 0 ≤ s ∧ s ≤ 4096 * (i : Int) ∧ Hid (ffG xs (ks.take i) (ks.drop i) L s = RES) ∧ Hid (L.length = n ∧ BdS (4096 * (i : Int)) L) ∧ Hid (wr.ownsRow w.heap.size 39 3 (.slice (some ⟨w.heap.size, 0, none⟩) n n) n (rowS L)) ∧ Hid (Below w.heap.size w wr) ∧ w.heap.size < wr.heap.size) (fun _ iv _ => n - (intOf iv).toNat)
  case atStart => exact ⟨0, List.replicate n st0, 0, rfl, rfl, by omega, by omega, by omega, HRES, Lib.hid ⟨by simp, fun s hs => by rw [List.eq_of_mem_replicate hs]; exact ⟨Int.le_refl _, Int.le_refl _, by decide, by decide⟩⟩, hO1, HB1, (hO1.out.lt w.heap.size rfl).2⟩
  case round =>
    clear hO1 HB1 HRES
    obtain ⟨i, L, s, rfl, rfl, hin, s0, s1, HR, HL, hO, hB, hsz⟩ := hrel
    obtain ⟨w0, hw0⟩ : ∃ w0, w0 = wr := ⟨_, rfl⟩
    subst hw0
    by_cases hlt : i < n
    · have hks : i < ks.length := by rw [HK.out.1]; exact hlt
      have hkk := (RK.out i hks)
      have hgw : g < w.heap.size := by rcases RG.out with h | h <;> omega
      have hkk := kpb hB.out hgw hkk
      have hkn := HK.out.2 _ (getD_mem0 hks)
      obtain ⟨k, hk⟩ : ∃ k, ks.getD i 0 = k := ⟨_, rfl⟩
      have HTS := Lib.hid (take_snoc hks)
      have HDC := Lib.hid (drop_cons0 hks)
      rw [hk] at hkk hkn HTS HDC
      obtain ⟨b, o, rfl, hbw, c0, c1, c2, c3⟩ := SlL_at RA.out HN.out hkn
      have c0 := kpb hB.out hbw c0
      have c1 := kpb hB.out hbw c1
      have c2 := kpb hB.out hbw c2
      have c3 := kpb hB.out hbw c3
      have hzk := HZ.out k hkn
      obtain ⟨x, hx⟩ : ∃ x, xs.getD k lf0 = x := ⟨_, rfl⟩
      have HX := Lib.hid hx
      rw [hx] at c0 c1 c2 c3 hzk
      have HZK := Lib.hid hzk
      clear hk hx hzk hks
      have k0 : (0 : Int) ≤ k := by omega
      have k1 : (k : Int) < n := by omega
      have i0' : (0 : Int) ≤ i := by omega
      have i1 : (i : Int) < n := by omega
      have i2 : (i : Int) ≤ n := by omega
      have XC0 : (w0.alloc (Obj.cells #[.string x.1, .int .i64 x.2.1, .int .i64 x.2.2.1, .int .i64 x.2.2.2] 37)).cell? ⟨w0.heap.size, 0, none⟩ = some (.string x.1) := by go_cell
      have XC1 : (w0.alloc (Obj.cells #[.string x.1, .int .i64 x.2.1, .int .i64 x.2.2.1, .int .i64 x.2.2.2] 37)).cell? ⟨w0.heap.size, 1, none⟩ = some (.int .i64 x.2.1) := by go_cell
      have XC2 : (w0.alloc (Obj.cells #[.string x.1, .int .i64 x.2.1, .int .i64 x.2.2.1, .int .i64 x.2.2.2] 37)).cell? ⟨w0.heap.size, 2, none⟩ = some (.int .i64 x.2.2.1) := by go_cell
      have XC3 : (w0.alloc (Obj.cells #[.string x.1, .int .i64 x.2.1, .int .i64 x.2.2.1, .int .i64 x.2.2.2] 37)).cell? ⟨w0.heap.size, 3, none⟩ = some (.int .i64 x.2.2.2) := by go_cell
      go_wp2
      obtain ⟨W1, hW1⟩ : ∃ W1, (w0.alloc (Obj.cells #[.string x.1, .int .i64 x.2.1, .int .i64 x.2.2.1, .int .i64 x.2.2.2] 37)) = W1 := ⟨_, rfl⟩
      have hWs : W1.heap.size = w0.heap.size + 1 := by rw [← hW1]; simp
      have HWS := Lib.hid hWs
      have HOW1 : Hid (W1.ownsRow w.heap.size 39 3 (.slice (some ⟨w.heap.size, 0, none⟩) n n) n (rowS L)) := Lib.hid (by rw [← hW1]; exact hO.out.alloc _)
      have HBW1 : Hid (Below w.heap.size w W1) := Lib.hid (by rw [← hW1]; exact hB.out.alloc (by omega) _)
      rw [hW1] at XC0 XC1 XC2 XC3 ⊢
      have HXC := Lib.hid (And.intro XC0 (And.intro XC1 (And.intro XC2 XC3)))
      clear XC0 XC1 XC2 XC3 hW1 hWs c0 c1 c2 c3 hkk
      go_loopw [11, 36] (fun ovv iv wl => ∃ (j2 : Nat) (T : List St), iv = .int .i64 (j2 : Int) ∧ j2 ≤ i ∧ T.length ≤ j2 ∧ Hid (oth xs L (ks.take j2) k = T) ∧ Hid (wl.ownsRow (w0.heap.size + 1) 39 3 ovv T.length (rowS T)) ∧ Hid (Below W1.heap.size W1 wl)) (fun _ iv _ => i - (intOf iv).toNat)
      case atStart => exact ⟨0, [], rfl, Nat.zero_le _, Nat.le_refl _, Lib.hid rfl, Lib.hid (World.ownsRow_nil _ _ _ _), Lib.hid (Below.refl _ _)⟩
      case round =>
        obtain ⟨j2, T, rfl, hj2, hTl, HT, hOT, hBl⟩ := hrel
        obtain ⟨wl, hwl⟩ : ∃ wl, wl = wr := ⟨_, rfl⟩
        subst hwl
        have HBW : Hid (Below w.heap.size w wl) := Lib.hid (HBW1.out.trans (hBl.out.mono (by have := HWS.out; omega)))
        have HOS : Hid (wl.ownsRow w.heap.size 39 3 (.slice (some ⟨w.heap.size, 0, none⟩) n n) n (rowS L)) := Lib.hid (own_belowE HOW1.out hBl.out)
        have hws := HWS.out
        have hsz2 := hBl.out.size
        by_cases hlt2 : j2 < i
        · have hjs : j2 < ks.length := by rw [HK.out.1]; omega
          have hjj := kpb HBW.out hgw (RK.out j2 hjs)
          have hjn := HK.out.2 _ (getD_mem0 hjs)
          obtain ⟨j, hj⟩ : ∃ j, ks.getD j2 0 = j := ⟨_, rfl⟩
          have HTJ := Lib.hid (take_snoc hjs)
          rw [hj] at hjj hjn HTJ
          obtain ⟨b', o', e, _, d0, d1, d2, d3⟩ := SlL_at RA.out HN.out hjn
          cases e
          have d0 := kpb HBW.out hbw d0
          have d1 := kpb HBW.out hbw d1
          have d2 := kpb HBW.out hbw d2
          have d3 := kpb HBW.out hbw d3
          obtain ⟨y, hy⟩ : ∃ y, xs.getD j lf0 = y := ⟨_, rfl⟩
          have HY := Lib.hid hy
          rw [hy] at d0 d1 d2 d3
          have x0 := kpb hBl.out (by omega) HXC.out.1
          have x1 := kpb hBl.out (by omega) HXC.out.2.1
          have x2 := kpb hBl.out (by omega) HXC.out.2.2.1
          have x3 := kpb hBl.out (by omega) HXC.out.2.2.2
          have hz11 : wl.drew.cell? ⟨b, o + j * 4, none⟩ = some (.string y.1) ∧ wl.drew.cell? ⟨b, o + j * 4 + 1, none⟩ = some (.int .i64 y.2.1) ∧ wl.drew.cell? ⟨b, o + j * 4 + 2, none⟩ = some (.int .i64 y.2.2.1) ∧ wl.drew.cell? ⟨b, o + j * 4 + 3, none⟩ = some (.int .i64 y.2.2.2) ∧ wl.drew.cell? ⟨w0.heap.size, 0, none⟩ = some (.string x.1) ∧ wl.drew.cell? ⟨w0.heap.size, 1, none⟩ = some (.int .i64 x.2.1) ∧ wl.drew.cell? ⟨w0.heap.size, 2, none⟩ = some (.int .i64 x.2.2.1) ∧ wl.drew.cell? ⟨w0.heap.size, 3, none⟩ = some (.int .i64 x.2.2.2) ∧ Below wl.heap.size wl wl.drew := ⟨d0, d1, d2, d3, x0, x1, x2, x3, (Below.refl _ _).drew⟩
          have m0 : (0 : Int) ≤ j := by omega
          have m1 : (j : Int) < n := by omega
          have m2 : (0 : Int) ≤ j2 := by omega
          have m3 : (j2 : Int) < i := by omega
          obtain ⟨tt, htt⟩ : ∃ tt, ov y x = tt := ⟨_, rfl⟩
          have HTT := Lib.hid htt
          clear hj hy d0 d1 d2 d3 x0 x1 x2 x3 hjs
          cases tt
          · have HT2 : Hid (oth xs L (ks.take (j2 + 1)) k = T) := Lib.hid (by rw [HTJ.out, oth_snoc, HY.out, HX.out, HTT.out, if_neg (by simp), List.append_nil, HT.out])
            go_wp2_with fail
            refine Rk.begin (S := fun wS => wS.cell? ⟨b, o + j * 4, none⟩ = some (.string y.1) ∧ wS.cell? ⟨b, o + j * 4 + 1, none⟩ = some (.int .i64 y.2.1) ∧ wS.cell? ⟨b, o + j * 4 + 2, none⟩ = some (.int .i64 y.2.2.1) ∧ wS.cell? ⟨b, o + j * 4 + 3, none⟩ = some (.int .i64 y.2.2.2) ∧ wS.cell? ⟨w0.heap.size, 0, none⟩ = some (.string x.1) ∧ wS.cell? ⟨w0.heap.size, 1, none⟩ = some (.int .i64 x.2.1) ∧ wS.cell? ⟨w0.heap.size, 2, none⟩ = some (.int .i64 x.2.2.1) ∧ wS.cell? ⟨w0.heap.size, 3, none⟩ = some (.int .i64 x.2.2.2) ∧ Below wl.heap.size wl wS) 5 (by kernel_rfl) hz11 (fun hHeld => ?_)
            refine Rk.takeP (i := 0) (v := ?_) rfl (by kernel_rfl) (by kernel_rfl) (by kernel_rfl) (by kernel_rfl) (fun _ _ _ h => h) (Or.inl ⟨by kernel_rfl, ?_⟩) (by assumption) ?_
            rotate_left
            · ((intro w hSw; go_simp) <;> with_reducible rfl)
            try simp only [Act.put, List.setIfInBounds_toArray, List.set_cons_zero, List.set_cons_succ]
            refine Rk.takeP (i := 1) (v := ?_) rfl (by kernel_rfl) (by kernel_rfl) (by kernel_rfl) (by kernel_rfl) (fun _ _ _ h => h) (Or.inl ⟨by kernel_rfl, ?_⟩) (by assumption) ?_
            rotate_left
            · ((intro w hSw; go_simp) <;> with_reducible rfl)
            try simp only [Act.put, List.setIfInBounds_toArray, List.set_cons_zero, List.set_cons_succ]
            refine Rk.takeP (i := 2) (v := ?_) rfl (by kernel_rfl) (by kernel_rfl) (by kernel_rfl) (by kernel_rfl) (fun _ _ _ h => h) (Or.inl ⟨by kernel_rfl, ?_⟩) (by assumption) ?_
            rotate_left
            · ((intro w hSw; go_simp) <;> with_reducible rfl)
            try simp only [Act.put, List.setIfInBounds_toArray, List.set_cons_zero, List.set_cons_succ]
            refine Rk.take [5] (i := 3) (v := ?_) rfl (by kernel_rfl) (by kernel_rfl) (by kernel_rfl) (by kernel_rfl) (by kernel_rfl) (fun _ _ _ h => h) (Or.inl ⟨by kernel_rfl, ?_⟩) (by assumption) ?_
            rotate_left
            · ((intro w hSw; (try dsimp only at hSw); go_simp) <;> with_reducible rfl)
            try simp only [Act.put, List.setIfInBounds_toArray, List.set_cons_zero, List.set_cons_succ]
            refine Rk.take [5] (i := 4) (v := ?_) rfl (by kernel_rfl) (by kernel_rfl) (by kernel_rfl) (by kernel_rfl) (by kernel_rfl) (fun _ _ _ h => h) (Or.inl ⟨by kernel_rfl, ?_⟩) (by assumption) ?_
            rotate_left
            · ((intro w hSw; (try dsimp only at hSw); go_simp) <;> with_reducible rfl)
            try simp only [Act.put, List.setIfInBounds_toArray, List.set_cons_zero, List.set_cons_succ]
            refine Rk.tail [5] [_] (by kernel_rfl) (by kernel_rfl) rfl (by decide) ?_
            go_wp2_with (go_at_call 26; (with_reducible refine (OV.out y x _).mono ?_); rintro e u ⟨rfl, hb⟩; have KB0 : Below wl.heap.size wl u := (hHeld.2.2.2.2.2.2.2.2).trans hb; have OTu := Lib.hid (own_belowE hOT.out KB0); have OSu := Lib.hid (own_belowE HOS.out KB0); have BLu := Lib.hid (hBl.out.trans (KB0.mono (by omega))); have hBu := KB0.size; clear KB0 hb hHeld)
            go_roundw
            case rel => exact ⟨j2 + 1, T, by go_num, by omega, by omega, HT2, OTu, BLu⟩
            case measure => simp [intOf]; omega
          · go_wp2_with fail
            refine Rk.begin (S := fun wS => wS.cell? ⟨b, o + j * 4, none⟩ = some (.string y.1) ∧ wS.cell? ⟨b, o + j * 4 + 1, none⟩ = some (.int .i64 y.2.1) ∧ wS.cell? ⟨b, o + j * 4 + 2, none⟩ = some (.int .i64 y.2.2.1) ∧ wS.cell? ⟨b, o + j * 4 + 3, none⟩ = some (.int .i64 y.2.2.2) ∧ wS.cell? ⟨w0.heap.size, 0, none⟩ = some (.string x.1) ∧ wS.cell? ⟨w0.heap.size, 1, none⟩ = some (.int .i64 x.2.1) ∧ wS.cell? ⟨w0.heap.size, 2, none⟩ = some (.int .i64 x.2.2.1) ∧ wS.cell? ⟨w0.heap.size, 3, none⟩ = some (.int .i64 x.2.2.2) ∧ Below wl.heap.size wl wS) 5 (by kernel_rfl) hz11 (fun hHeld => ?_)
            refine Rk.takeP (i := 0) (v := ?_) rfl (by kernel_rfl) (by kernel_rfl) (by kernel_rfl) (by kernel_rfl) (fun _ _ _ h => h) (Or.inl ⟨by kernel_rfl, ?_⟩) (by assumption) ?_
            rotate_left
            · ((intro w hSw; go_simp) <;> with_reducible rfl)
            try simp only [Act.put, List.setIfInBounds_toArray, List.set_cons_zero, List.set_cons_succ]
            refine Rk.takeP (i := 1) (v := ?_) rfl (by kernel_rfl) (by kernel_rfl) (by kernel_rfl) (by kernel_rfl) (fun _ _ _ h => h) (Or.inl ⟨by kernel_rfl, ?_⟩) (by assumption) ?_
            rotate_left
            · ((intro w hSw; go_simp) <;> with_reducible rfl)
            try simp only [Act.put, List.setIfInBounds_toArray, List.set_cons_zero, List.set_cons_succ]
            refine Rk.takeP (i := 2) (v := ?_) rfl (by kernel_rfl) (by kernel_rfl) (by kernel_rfl) (by kernel_rfl) (fun _ _ _ h => h) (Or.inl ⟨by kernel_rfl, ?_⟩) (by assumption) ?_
            rotate_left
            · ((intro w hSw; go_simp) <;> with_reducible rfl)
            try simp only [Act.put, List.setIfInBounds_toArray, List.set_cons_zero, List.set_cons_succ]
            refine Rk.take [5] (i := 3) (v := ?_) rfl (by kernel_rfl) (by kernel_rfl) (by kernel_rfl) (by kernel_rfl) (by kernel_rfl) (fun _ _ _ h => h) (Or.inl ⟨by kernel_rfl, ?_⟩) (by assumption) ?_
            rotate_left
            · ((intro w hSw; (try dsimp only at hSw); go_simp) <;> with_reducible rfl)
            try simp only [Act.put, List.setIfInBounds_toArray, List.set_cons_zero, List.set_cons_succ]
            refine Rk.take [5] (i := 4) (v := ?_) rfl (by kernel_rfl) (by kernel_rfl) (by kernel_rfl) (by kernel_rfl) (by kernel_rfl) (fun _ _ _ h => h) (Or.inl ⟨by kernel_rfl, ?_⟩) (by assumption) ?_
            rotate_left
            · ((intro w hSw; (try dsimp only at hSw); go_simp) <;> with_reducible rfl)
            try simp only [Act.put, List.setIfInBounds_toArray, List.set_cons_zero, List.set_cons_succ]
            refine Rk.tail [5] [_] (by kernel_rfl) (by kernel_rfl) rfl (by decide) ?_
            go_upto_region 12 with (go_at_call 26; (with_reducible refine (OV.out y x _).mono ?_); rintro e u ⟨rfl, hb⟩; have KB0 : Below wl.heap.size wl u := (hHeld.2.2.2.2.2.2.2.2).trans hb; have OTu := Lib.hid (own_belowE hOT.out KB0); have OSu := Lib.hid (own_belowE HOS.out KB0); have BLu := Lib.hid (hBl.out.trans (KB0.mono (by omega))); have hBu := KB0.size; clear KB0 hb hHeld)
            obtain ⟨v0, v1, v2⟩ := rowS_get L j (by rw [HL.out.1]; exact hjn)
            have s0' := (OSu.out.cellAt (j * 3) (by omega)).trans v0
            have s1' := (OSu.out.cellAt (j * 3 + 1) (by omega)).trans v1
            have s2' := (OSu.out.cellAt (j * 3 + 2) (by omega)).trans v2
            obtain ⟨q, hq⟩ : ∃ q, L.getD j st0 = q := ⟨_, rfl⟩
            have HT2 : Hid (oth xs L (ks.take (j2 + 1)) k = T ++ [q]) := Lib.hid (by rw [HTJ.out, oth_snoc, HY.out, HX.out, HTT.out, if_pos rfl, HT.out, hq])
            rw [hq] at s0' s1' s2'
            have OA := Lib.hid (OTu.out.alloc (Obj.cells #[.string q.1, .int .i64 q.2.1, .int .i64 q.2.2] 39))
            have a0 : (u.alloc (Obj.cells #[.string q.1, .int .i64 q.2.1, .int .i64 q.2.2] 39)).cell? ⟨u.heap.size, 0, none⟩ = some (.string q.1) := by go_cell
            have a1 : (u.alloc (Obj.cells #[.string q.1, .int .i64 q.2.1, .int .i64 q.2.2] 39)).cell? ⟨u.heap.size, 1, none⟩ = some (.int .i64 q.2.1) := by go_cell
            have a2 : (u.alloc (Obj.cells #[.string q.1, .int .i64 q.2.1, .int .i64 q.2.2] 39)).cell? ⟨u.heap.size, 2, none⟩ = some (.int .i64 q.2.2) := by go_cell
            have BA : Hid (Below W1.heap.size W1 (u.alloc (Obj.cells #[.string q.1, .int .i64 q.2.1, .int .i64 q.2.2] 39))) := Lib.hid (BLu.out.alloc (by omega) _)
            obtain ⟨hi, hz0, hz1, hz2⟩ := HI39.out
            clear OTu OSu v0 v1 v2 hq
            go_wp2_with (at_builtin; refine wpList_append_own _ rfl _ _ 25 rfl (w0.heap.size + 1) 39 i0 (.agg #[.string ⟨#[]⟩, .int .i64 0, .int .i64 0]) 3 32 Try.underlying25 hi hz0 hz1 hz2 rfl (by decide) _ _ _ rfl OA.out ⟨u.heap.size, 0, none⟩ 1 1 [.string q.1, .int .i64 q.2.1, .int .i64 q.2.2] rfl rfl ?_ ?_ ?_ ?_ ?_ ?_)
            · intro q' x' hx'
              rcases q' with _ | _ | _ | q'
              · cases hx'; exact a0
              · cases hx'; exact a1
              · cases hx'; exact a2
              · simp at hx'
            · intro x' hx'
              simp at hx'
              rcases hx' with rfl | rfl | rfl <;> rfl
            · unfold maxLen; omega
            · omega
            · simp; omega
            intro v' w5 hown' hgrow _
            have K5 := Lib.hid (BA.out.grown hgrow (by have := BA.out.size; exact this) (fun q' hq' => by have := (OA.out.lt q' hq').1; omega))
            have hown2 : Hid (w5.ownsRow (w0.heap.size + 1) 39 3 v' (T ++ [q]).length (rowS (T ++ [q]))) := Lib.hid (by
              rw [List.length_append, rowS_app]
              exact hown')
            obtain ⟨q', c', rfl⟩ := own_slice hown2.out
            clear hown' hgrow OA a0 a1 a2 BA hi hz0 hz1 hz2
            go_wp2_with fail
            go_roundw
            case rel => exact ⟨j2 + 1, T ++ [q], by go_num, by omega, by simp; omega, HT2, hown2, K5⟩
            case measure => simp [intOf]; omega
        · obtain rfl : j2 = i := by omega
          have m3 : ¬ (j2 : Int) < j2 := by omega
          obtain ⟨q, cq, rfl⟩ := own_slice hOT.out
          have SS := Lib.hid (SlS_of hOT.out rfl)
          have OC := Lib.hid (ord33 34 (fun s => s.2.1) (fun _ => True) (Lib.hid ent34) (Lib.hid fun a _ w => k34 a w) q T cq T.length wl (Lib.hid rfl) (by omega) SS (Lib.hid fun _ _ => trivial))
          have HBT := Lib.hid (show BdS (4096 * (j2 : Int)) T by rw [← HT.out]; exact oth_bd HL.out.2 (by omega))
          have HFB := Lib.hid (ffo_bd (z := x.2.2.2) HBT.out (show (0 : Int) ≤ 4096 * (j2 : Int) by omega))
          go_wp2_with (go_at_call 33; (with_reducible refine OC.out.mono ?_); rintro e w3 ⟨g3, rfl, B3, O3⟩)
          have HB3 := Lib.hid B3
          have HO3 := Lib.hid O3
          clear B3 O3 OC
          go_loopw [14, 57] (fun av iv wm => ∃ (m : Nat) (A : Int), iv = .int .i64 (m : Int) ∧ av = .int .i64 A ∧ m ≤ T.length ∧ 0 ≤ A ∧ A ≤ 4096 * (j2 : Int) ∧ Hid (ffs x.2.2.2 (prs ((srtS T).drop m)) A = ffo x.2.2.2 T) ∧ Hid (Below w3.heap.size w3 wm)) (fun _ iv _ => T.length - (intOf iv).toNat)
          case atStart => exact ⟨0, 0, rfl, rfl, Nat.zero_le _, Int.le_refl _, by omega, Lib.hid rfl, Lib.hid (Below.refl _ _)⟩
          case round =>
            obtain ⟨m, A, rfl, rfl, hm, A0, A1, HF, hBm⟩ := hrel
            obtain ⟨wm, hwm⟩ : ∃ wm, wm = wr := ⟨_, rfl⟩
            subst hwm
            have HB3m : Hid (Below wl.heap.size wl wm) := Lib.hid (HB3.out.trans (hBm.out.mono HB3.out.size))
            have hsz3 := HB3m.out.size
            have x3 := kpb HB3m.out (by omega) (kpb hBl.out (by omega) HXC.out.2.2.2)
            by_cases hlt3 : m < T.length
            · obtain ⟨j, hjT, ej, es⟩ := srtS_get hlt3
              have r0 := (HO3.out.cellAt m (by omega)).trans (rowE_get _ m (by rw [ordL_len]; exact hlt3))
              rw [ej] at r0
              have r0 := kpb hBm.out (by have := World.block_lt_of_cell? _ _ r0; simpa using this) r0
              obtain ⟨bq, oq, rfl, y0, y1, y2⟩ := SS.out j hjT
              have hbq : bq < wl.heap.size := by have := World.block_lt_of_cell? _ _ y0; simpa using this
              have y0 := kpb HB3m.out hbq y0
              have y1 := kpb HB3m.out hbq y1
              have y2 := kpb HB3m.out hbq y2
              have hbd := HBT.out.get (show (0 : Int) ≤ 4096 * (j2 : Int) by omega) j
              have HFS : Hid ((srtS T).drop m = T.getD j st0 :: (srtS T).drop (m + 1)) := Lib.hid (by
                have hl : m < (srtS T).length := by rw [srtS_len]; exact hlt3
                rw [List.drop_eq_getElem_cons hl]
                have e1 : (srtS T).getD m st0 = (srtS T)[m] := by unfold List.getD; rw [List.getElem?_eq_getElem hl]; rfl
                rw [← e1, es])
              obtain ⟨q, hq⟩ : ∃ q, T.getD j st0 = q := ⟨_, rfl⟩
              rw [hq] at y0 y1 y2 hbd HFS
              obtain ⟨qs, qa, ql⟩ := q
              simp only at y0 y1 y2 hbd
              obtain ⟨hb0, hb1, hb2, hb3⟩ := hbd
              obtain ⟨xz, hxz⟩ : ∃ xz, x.2.2.2 = xz := ⟨_, rfl⟩
              have hzk := HZK.out
              rw [hxz] at x3 HF hzk ⊢
              obtain ⟨zk1, zk2⟩ := hzk
              have BM2 : Hid (Below w3.heap.size w3 (wm.alloc (Obj.cells #[.string qs, .int .i64 qa, .int .i64 ql] 39))) := Lib.hid (hBm.out.alloc (by have := hBm.out.size; omega) _)
              have e0 : (0 : Int) ≤ m := by omega
              have e1 : (m : Int) < T.length := by omega
              have e2 : (0 : Int) ≤ j := by omega
              have e3 : (j : Int) < T.length := by omega
              clear hq ej es hxz
              have lx : w0.heap.size < wm.heap.size := by omega
              by_cases ht : qa < A + xz
              · have t1 : decide (qa < A + xz) = true := decide_eq_true ht
                have HF2 : Hid (ffs xz (prs ((srtS T).drop (m + 1))) (max A (qa + ql)) = ffo xz T) := Lib.hid (by
                  have h := HF.out
                  rw [HFS.out] at h
                  unfold prs at h ⊢
                  rw [List.map_cons] at h
                  unfold ffs at h
                  rw [if_pos ht] at h
                  exact h)
                by_cases hmx : A < qa + ql
                · rw [show max A (qa + ql) = qa + ql by omega] at HF2
                  clear ht
                  go_wp2_with fail
                  go_roundw
                  case rel => exact ⟨m + 1, qa + ql, by go_num, rfl, by omega, by omega, by omega, HF2, BM2⟩
                  case measure => simp [intOf]; omega
                · have hmx2 : qa + ql ≤ A := by omega
                  rw [show max A (qa + ql) = A by omega] at HF2
                  clear ht hmx
                  go_wp2_with fail
                  go_roundw
                  case rel => exact ⟨m + 1, A, by go_num, rfl, by omega, by omega, by omega, HF2, BM2⟩
                  case measure => simp [intOf]; omega
              · have t1 : decide (qa < A + xz) = false := decide_eq_false ht
                have HF2 : Hid (ffs xz (prs ((srtS T).drop (m + 1))) A = ffo xz T) := Lib.hid (by
                  have h := HF.out
                  rw [HFS.out] at h
                  unfold prs at h ⊢
                  rw [List.map_cons] at h
                  unfold ffs at h
                  rw [if_neg ht] at h
                  exact h)
                clear ht
                go_wp2_with fail
                go_roundw
                case rel => exact ⟨m + 1, A, by go_num, rfl, by omega, by omega, by omega, HF2, BM2⟩
                case measure => simp [intOf]; omega
            · obtain rfl : m = T.length := by omega
              have e1 : ¬ (T.length : Int) < T.length := by omega
              have HFA : Hid (A = ffo x.2.2.2 (oth xs L (ks.take j2) k)) := Lib.hid (by
                have h := HF.out
                rw [List.drop_of_length_le (by rw [srtS_len]; exact Nat.le_refl _)] at h
                rw [HT.out]
                exact h)
              have x0 := kpb HB3m.out (by omega) (kpb hBl.out (by omega) HXC.out.1)
              have OSm := own_belowE HOS.out HB3m.out
              have HBWm : Hid (Below w.heap.size w wm) := Lib.hid (HBW.out.trans (HB3m.out.mono (by omega)))
              have f0 := OSm.frozenAt (k * 3)
              have f1 := OSm.frozenAt (k * 3 + 1)
              have f2 := OSm.frozenAt (k * 3 + 2)
              obtain ⟨v0, v1, v2⟩ := rowS_get L k (by rw [HL.out.1]; exact hkn)
              have s0' := (OSm.cellAt (k * 3) (by omega)).trans v0
              have s1' := (OSm.cellAt (k * 3 + 1) (by omega)).trans v1
              have s2' := (OSm.cellAt (k * 3 + 2) (by omega)).trans v2
              obtain ⟨xz, hxz⟩ : ∃ xz, x.2.2.2 = xz := ⟨_, rfl⟩
              have hzk := HZK.out
              rw [hxz] at x3 hzk
              obtain ⟨zk1, zk2⟩ := hzk
              have HXZ := Lib.hid hxz
              have O0 := OSm.stored (k * 3) (.string x.1)
              have O1 := O0.1.stored (k * 3 + 1) (.int .i64 A)
              have O2 := O1.1.stored (k * 3 + 2) (.int .i64 xz)
              have ON : Hid (((((wm.setCell ⟨w.heap.size, k * 3, none⟩ (.string x.1)).setCell ⟨w.heap.size, k * 3 + 1, none⟩ (.int .i64 A)).setCell ⟨w.heap.size, k * 3 + 2, none⟩ (.int .i64 xz))).ownsRow w.heap.size 39 3 (.slice (some ⟨w.heap.size, 0, none⟩) n n) n (rowS (L.set k (x.1, A, xz)))) := Lib.hid (by
                have h := O2.1
                rw [rowS_set L k (x.1, A, xz) (by rw [HL.out.1]; exact hkn)] at h
                exact h)
              have BN : Hid (Below w.heap.size w (((wm.setCell ⟨w.heap.size, k * 3, none⟩ (.string x.1)).setCell ⟨w.heap.size, k * 3 + 1, none⟩ (.int .i64 A)).setCell ⟨w.heap.size, k * 3 + 2, none⟩ (.int .i64 xz))) := Lib.hid (((HBWm.out.setCell (p := ⟨w.heap.size, k * 3, none⟩) (Nat.le_refl _) _).setCell (p := ⟨w.heap.size, k * 3 + 1, none⟩) (Nat.le_refl _) _).setCell (p := ⟨w.heap.size, k * 3 + 2, none⟩) (Nat.le_refl _) _)
              have HRN : Hid (ffG xs (ks.take (j2 + 1)) (ks.drop (j2 + 1)) (L.set k (x.1, A, xz)) (max s (A + xz)) = RES) := Lib.hid (by
                have h := HR.out
                rw [HDC.out] at h
                unfold ffG at h
                rw [HX.out, ← HFA.out, HXZ.out] at h
                rw [HTS.out]
                exact h)
              have HLN : Hid ((L.set k (x.1, A, xz)).length = n ∧ BdS (4096 * ((j2 + 1 : Nat) : Int)) (L.set k (x.1, A, xz))) := Lib.hid ⟨by rw [List.length_set]; exact HL.out.1, by
                rw [show 4096 * ((j2 + 1 : Nat) : Int) = 4096 * (j2 : Int) + 4096 by omega]
                exact HL.out.2.set ⟨A0, by show 0 ≤ xz; omega, by show xz ≤ 4096; omega, by show A + xz ≤ _; omega⟩⟩
              have lw : w.heap.size < wm.heap.size := by omega
              have lx : w0.heap.size ≠ w.heap.size := by omega
              have lx2 : ¬ w.heap.size = w0.heap.size := by omega
              clear O0 O1 O2 OSm v0 v1 v2 hxz HF HFA HT
              by_cases hmx : s < A + xz
              · rw [show max s (A + xz) = A + xz by omega] at HRN
                go_wp2_with fail
                go_roundw
                case rel => exact ⟨j2 + 1, L.set k (x.1, A, xz), A + xz, by go_num, rfl, by omega, by omega, by omega, HRN, HLN, ON, BN, by simp; omega⟩
                case measure => simp [intOf]; omega
              · have hmx2 : A + xz ≤ s := by omega
                rw [show max s (A + xz) = s by omega] at HRN
                clear hmx
                go_wp2_with fail
                go_roundw
                case rel => exact ⟨j2 + 1, L.set k (x.1, A, xz), s, by go_num, rfl, by omega, by omega, by omega, HRN, HLN, ON, BN, by simp; omega⟩
                case measure => simp [intOf]; omega
    · have i1 : ¬ (i : Int) < n := by omega
      obtain rfl : i = n := by omega
      have HE : Hid ((L, s) = RES) := Lib.hid (by
        have h := HR.out
        rw [List.drop_of_length_le (by rw [HK.out.1]; exact Nat.le_refl _)] at h
        exact h)
      go_wp2
      refine bodyPost_ret (v := .tuple #[.slice (some ⟨w.heap.size, 0, none⟩) i i, .int .i64 s]) (by simp [results, Try.results20, go_sem]) rfl ?_
      rw [← HE.out]
      exact ⟨_, rfl, hB.out, hO.out⟩
end Go.Proofs.Ytghnigmmkenddaa.Ar
