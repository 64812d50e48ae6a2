/- The lexer: long words. -/
import Derived.Test.YtipeapjbodnagaaX17
import Derived.Laws.IdiomStrings
namespace Go.Proofs.Ytipeapjbodnagaa.Lx
open Go.ChangeShapes Go.WideShapes Go.ChangeAt Go.RowKit
open Go.Proofs.Ytipeapjbodnagaa.Nm
set_option linter.unusedVariables false

theorem conv1 (w : World) (x : Int) (c : UInt8) (hx : (c.toNat : Int) = x) : (convert 52 9 (.slice (some ⟨w.heap.size, 0, none⟩) 1 1)).run Try.prog (w.alloc (Obj.cells #[Value.int .u8 x] 5)) = .ok (.string ⟨#[c]⟩) (w.alloc (Obj.cells #[Value.int .u8 x] 5)) := by
  refine run_convert_bytes_back _ 52 9 5 ⟨w.heap.size, 0, none⟩ 1 [c] Try.underlying52 Try.underlying5 Try.underlying9 (fun j hj => ?_)
  obtain rfl : j = 0 := by simp at hj; omega
  show World.cell? _ _ = some (.int .u8 (c.toNat : Int))
  rw [hx]
  go_cell
theorem conv2 (w : World) (c : UInt8) : (convert 52 9 (.slice (some ⟨w.heap.size, 0, none⟩) 1 1)).run Try.prog (w.alloc (Obj.cells #[Value.int .u8 (c.toNat : Int)] 5)) = .ok (.string ⟨#[c]⟩) (w.alloc (Obj.cells #[Value.int .u8 (c.toNat : Int)] 5)) := conv1 w _ c rfl
theorem pick7 : ∀ i, ∀ h : i < 7, (⟨#[97, 98, 122, 48, 49, 57, 95]⟩ : ByteArray)[i]'h = ([97, 98, 122, 48, 49, 57, 95] : List UInt8).getD i 0 := by decide
theorem word7 : ∀ i, i < 7 → wd (n8 (([97, 98, 122, 48, 49, 57, 95] : List UInt8).getD i 0)) = true := by decide
theorem app_list (x y : ByteArray) : (x ++ y).data.toList = x.data.toList ++ y.data.toList := by simp
theorem word_kd {c : UInt8} {m r : List UInt8} (h1 : let1 (n8 c) = true) (h2 : ∀ d ∈ m, wd (n8 d) = true) : kd (c :: m) 0 = (1, (c :: m).length) := by
  rw [kd_let (show let1 (by1 (c :: m) 0) = true from h1)]
  unfold rn
  rw [List.drop_succ_cons, List.drop_zero]
  have := takeWhile_app (p := fun d => wd (n8 d)) m [] h2 (.inl rfl)
  rw [List.append_nil] at this
  rw [this]; simp; omega
theorem num_kd {c : UInt8} {m : List UInt8} (h1 : dg (n8 c) = true) (h2 : ∀ d ∈ m, dg (n8 d) = true) : kd (c :: m) 0 = (2, (c :: m).length) := by
  rw [kd_dig (show let1 (by1 (c :: m) 0) = false from not_let h1) (show dg (by1 (c :: m) 0) = true from h1)]
  unfold rn
  rw [List.drop_succ_cons, List.drop_zero]
  have := takeWhile_app (p := fun d => dg (n8 d)) m [] h2 (.inl rfl)
  rw [List.append_nil] at this
  rw [this]; simp; omega
theorem num_tkz {y : ByteArray} {c : UInt8} {m : List UInt8} (hy : y.data.toList = c :: m) (hl : y.size ≤ 65536) (h1 : dg (n8 c) = true) (h2 : ∀ d ∈ m, dg (n8 d) = true) : tkz y = ([(2, 0, y)], 0, 0) := by
  have hk : kd y.data.toList 0 = (2, y.size) := by rw [hy, num_kd h1 h2, ← hy, len_data]
  obtain ⟨v1, v2⟩ := kd_first (l := y.data.toList) (k := 0) (by rw [hk]; show (2 : Int) ≠ 0; decide)
  have hpos : 0 < y.size := by rw [← len_data, hy]; simp
  have hs0 : skp y.data.toList 0 = 0 := skp_no (by rw [len_data]; exact hpos) v1 v2
  have he : y.extract 0 y.size = y := ba_ext (by rw [ext_all, List.drop_zero])
  unfold tkz
  rw [if_neg (by omega), hs0, tz_go hpos (by rw [hk]; show (2 : Int) ≠ 0; decide) (by rw [hk]; exact fun h => absurd h.1 (by show ¬ (2 : Int) = 1; decide)), hk]
  simp only
  rw [skp_end (by rw [len_data]; exact Nat.le_refl _), tz_end (Nat.le_refl _), he]
  rfl
theorem word_tkz {x : ByteArray} {c : UInt8} {m : List UInt8} (hx : x.data.toList = c :: m) (hl : x.size ≤ 300) (h1 : let1 (n8 c) = true) (h2 : ∀ d ∈ m, wd (n8 d) = true) :
    tkz ((⟨#[32, 32]⟩ : ByteArray) ++ x) = if x.size ≤ 16 then ([(1, 2, x)], 0, 0) else ([], 2, 2) := by
  obtain ⟨X, hX⟩ : ∃ X, (⟨#[32, 32]⟩ : ByteArray) ++ x = X := ⟨_, rfl⟩
  have hXl : X.data.toList = 32 :: 32 :: (c :: m) := by rw [← hX, app_list, hx]; rfl
  have hXs : X.size = 2 + x.size := by rw [← len_data, hXl, ← hx, List.length_cons, List.length_cons, len_data]; omega
  rw [hX]
  have hpos : 0 < x.size := by rw [← len_data, hx]; simp
  have hk : kd X.data.toList 2 = (1, 2 + x.size) := by
    rw [kd_drop, hXl]
    show ((kd (c :: m) 0).1, 2 + (kd (c :: m) 0).2) = _
    rw [word_kd (r := []) h1 h2, ← hx, len_data]
  obtain ⟨v1, v2⟩ := kd_first (l := X.data.toList) (k := 2) (by rw [hk]; show (1 : Int) ≠ 0; decide)
  have s0 : skp X.data.toList 0 = skp X.data.toList 1 := skp_sp (by rw [len_data]; omega) (by rw [hXl]; rfl)
  have s1 : skp X.data.toList 1 = skp X.data.toList 2 := skp_sp (by rw [len_data]; omega) (by rw [hXl]; rfl)
  have s2 : skp X.data.toList 2 = 2 := skp_no (by rw [len_data]; omega) v1 v2
  have he : X.extract 2 (2 + x.size) = x := ba_ext (by rw [← hXs, ext_all, hXl, hx]; rfl)
  unfold tkz
  rw [if_neg (by omega), s0, s1, s2]
  by_cases h16 : x.size ≤ 16
  · rw [if_pos h16, tz_go (by omega) (by rw [hk]; show (1 : Int) ≠ 0; decide) (by rw [hk]; simp only; omega), hk]
    simp only
    rw [skp_end (by rw [len_data]; omega), tz_end (by omega), he]
    rfl
  · rw [if_neg h16, tz_long (by omega) (by rw [hk]) (by rw [hk]; simp only; omega)]
    rfl
theorem word_nm {x : ByteArray} {c : UInt8} {m : List UInt8} (hx : x.data.toList = c :: m) (h1 : let1 (n8 c) = true) (h2 : ∀ d ∈ m, wd (n8 d) = true) : nmB x = (decide (x.size ≤ 16) && !kwB x.toList) := by
  have hpos : 0 < x.size := by rw [← len_data, hx]; simp
  have hb : ∀ k, k < x.size → bt x k = by1 x.data.toList k := fun k hk => by rw [bt_at hk, by1_at hk]
  have e0 : let1 (bt x 0) = true := by rw [hb 0 hpos, hx]; exact h1
  have e1 : ((List.range x.size).all fun k => wd (bt x k)) = true := by
    rw [List.all_eq_true]
    intro k hk
    have hk := List.mem_range.1 hk
    rw [hb k hk]
    have hk2 : k < x.data.toList.length := by rw [len_data]; exact hk
    have e : by1 x.data.toList k = n8 x.data.toList[k] := by unfold by1 n8; rw [List.getD, List.getElem?_eq_getElem hk2]; rfl
    rw [e]
    have : x.data.toList[k] ∈ c :: m := (congrArg (fun l => x.data.toList[k] ∈ l) hx).mp (List.getElem_mem hk2)
    rcases List.mem_cons.1 this with h | h
    · rw [h]; unfold wd; rw [h1]; rfl
    · exact h2 _ h
  unfold nmB
  rw [e0, e1, Bool.true_and, Bool.true_and]
  congr 1
  rw [Bool.eq_iff_iff, decide_eq_true_eq, decide_eq_true_eq]
  omega
theorem byte_of {x : Int} (h0 : 0 ≤ x) (h1 : x ≤ 255) : ∃ c : UInt8, (c.toNat : Int) = x := ⟨UInt8.ofNat x.toNat, by simp; omega⟩
set_option maxRecDepth 100000 in
set_option maxHeartbeats 8000000 in
theorem law_long (n a b : Int) (w : World) (hn : 0 ≤ n ∧ n ≤ 65535) (ha : 0 ≤ a ∧ a ≤ 255) (hb : 0 ≤ b ∧ b ≤ 255) : Calls Try.prog 10 #[.int .u16 n, .int .u8 a, .int .u8 b] w fun e w' => e = .returned (.bool true) ∧ Below w.heap.size w w' := by
  have EX := Lib.hid exams
  obtain ⟨n0, n1⟩ := hn
  obtain ⟨a0, a1⟩ := ha
  obtain ⟨b0, b1⟩ := hb
  obtain ⟨c0, hc0⟩ := byte_of (x := 97 + a % 26) (by omega) (by omega)
  obtain ⟨d0, hd0⟩ := byte_of (x := 48 + a % 10) (by omega) (by omega)
  have HC0 := Lib.hid hc0
  have HD0 := Lib.hid hd0
  have r7 : 0 ≤ b % 7 := by omega
  have r7' : b % 7 < 7 := by omega
  clear hc0 hd0
  go_enter Try.func10, Try.ntmps10
  go_wp2_with fail
  rw [conv1 w _ c0 HC0.out]
  simp only [Result.andThen]
  rw [Oper.upon_value]
  have B1 : Below w.heap.size w (w.alloc (Obj.cells #[Value.int IntKind.u8 (97 + a % 26)] 5)) := (Below.refl _ _).alloc (Nat.le_refl _) _
  generalize w.alloc (Obj.cells #[Value.int IntKind.u8 (97 + a % 26)] 5) = w1 at *
  go_wp2_with fail
  rw [conv1 w1 _ d0 HD0.out]
  simp only [Result.andThen]
  rw [Oper.upon_value]
  have B2 : Below w.heap.size w (w1.alloc (Obj.cells #[Value.int IntKind.u8 (48 + a % 10)] 5)) := B1.alloc B1.size _
  generalize w1.alloc (Obj.cells #[Value.int IntKind.u8 (48 + a % 10)] 5) = w2 at *
  obtain ⟨M, hM⟩ : ∃ M : Nat, (M : Int) = 1 + n % 300 := ⟨(1 + n % 300).toNat, by omega⟩
  have m0 : 1 ≤ M := by omega
  have m1 : M ≤ 300 := by omega
  rw [← hM]
  clear hM n0 n1
  go_wp2_with fail
  obtain ⟨c1, hc1⟩ : ∃ c1 : UInt8, c1 = ([97, 98, 122, 48, 49, 57, 95] : List UInt8).getD (b % 7).toNat 0 := ⟨_, rfl⟩
  obtain ⟨d1, hd1⟩ := byte_of (x := 48 + b % 10) (by omega) (by omega)
  have HD1 := Lib.hid hd1
  have HC1 := Lib.hid hc1
  clear hd1 hc1
  go_loopw [8, 9, 10] (fun u v i wr => ∃ (k : Nat) (x y : ByteArray), i = .int .i64 (k : Int) ∧ u = .string x ∧ v = .string y ∧ 1 ≤ k ∧ k ≤ M ∧ Below w.heap.size w wr ∧ Hid (x.data.toList = c0 :: List.replicate (k - 1) c1) ∧ Hid (y.data.toList = d0 :: List.replicate (k - 1) d1)) (fun _ _ i _ => M - (intOf i).toNat)
  case atStart => exact ⟨1, ⟨#[c0]⟩, ⟨#[d0]⟩, rfl, rfl, rfl, by omega, m0, B2, Lib.hid rfl, Lib.hid rfl⟩
  case round =>
    obtain ⟨k, x, y, rfl, rfl, rfl, hk1, hk, hB, hX, hY⟩ := hrel
    by_cases hlt : k < M
    · have k0 : (0 : Int) ≤ k := by omega
      have k1 : (k : Int) < M := by omega
      have xs1 : x.size = k := by rw [← len_data x, hX.out]; simp; omega
      have ys1 : y.size = k := by rw [← len_data y, hY.out]; simp; omega
      have xs2 : x.size ≤ 300 := by omega
      have ys2 : y.size ≤ 300 := by omega
      have HX2 : Hid ((x ++ (⟨#[c1]⟩ : ByteArray)).data.toList = c0 :: List.replicate (k + 1 - 1) c1) := Lib.hid (by
        rw [app_list, hX.out]
        show c0 :: (List.replicate (k - 1) c1 ++ [c1]) = _
        rw [← List.replicate_succ', show k - 1 + 1 = k + 1 - 1 by omega])
      have HY2 : Hid ((y ++ (⟨#[d1]⟩ : ByteArray)).data.toList = d0 :: List.replicate (k + 1 - 1) d1) := Lib.hid (by
        rw [app_list, hY.out]
        show d0 :: (List.replicate (k - 1) d1 ++ [d1]) = _
        rw [← List.replicate_succ', show k - 1 + 1 = k + 1 - 1 by omega])
      clear xs1 ys1 hX hY
      go_wp2_with fail
      rw [pick7 (b % 7).toNat (by omega), ← HC1.out]
      rw [conv2 wr c1]
      simp only [Result.andThen]
      rw [Oper.upon_value]
      have hB1 : Below w.heap.size w (wr.alloc (Obj.cells #[Value.int IntKind.u8 (c1.toNat : Int)] 5)) := hB.alloc hB.size _
      generalize wr.alloc (Obj.cells #[Value.int IntKind.u8 (c1.toNat : Int)] 5) = wq at *
      go_wp2_with fail
      rw [conv1 wq _ d1 HD1.out]
      simp only [Result.andThen]
      rw [Oper.upon_value]
      have hB2 : Below w.heap.size w (wq.alloc (Obj.cells #[Value.int IntKind.u8 (48 + b % 10)] 5)) := hB1.alloc hB1.size _
      generalize wq.alloc (Obj.cells #[Value.int IntKind.u8 (48 + b % 10)] 5) = wq2 at *
      go_wp2_with fail
      go_roundw
      case rel => exact ⟨k + 1, _, _, by go_num, rfl, rfl, by omega, by omega, hB2, HX2, HY2⟩
      case measure => simp [intOf]; omega
    · obtain rfl : k = M := by omega
      have xs1 : x.size = k := by rw [← len_data x, hX.out]; simp; omega
      have ys1 : y.size = k := by rw [← len_data y, hY.out]; simp; omega
      have q1 : let1 (n8 c0) = true := by unfold n8 let1; rw [HC0.out]; simp; omega
      have q2 : ∀ d ∈ List.replicate (k - 1) c1, wd (n8 d) = true := fun d hd => by rw [(List.mem_replicate.1 hd).2, HC1.out]; exact word7 _ (by omega)
      have q3 : dg (n8 d0) = true := by unfold n8 dg; rw [HD0.out]; simp; omega
      have q4 : ∀ d ∈ List.replicate (k - 1) d1, dg (n8 d) = true := fun d hd => by rw [(List.mem_replicate.1 hd).2]; unfold n8 dg; rw [HD1.out]; simp; omega
      have tx := word_tkz hX.out (by omega) q1 q2
      have ty := num_tkz hY.out (by omega) q3 q4
      have nx := word_nm hX.out q1 q2
      have hmx : 302 ≤ maxLen := by unfold maxLen; decide
      have hXs : ((⟨#[32, 32]⟩ : ByteArray) ++ x).size = 2 + x.size := by rw [ByteArray.size_append]; rfl
      have CX := Lib.hid fun w => tokenize ((⟨#[32, 32]⟩ : ByteArray) ++ x) w (by rw [hXs]; omega)
      have CY := Lib.hid fun w => (by have h := tokenize y w (by omega); rw [ty] at h; exact h)
      have CN := Lib.hid fun w => Lv.lexName x w (by omega)
      have CK := Lib.hid fun w => lexKw x w
      have hx2 : x.size ≤ 300 := by omega
      have k0 : (0 : Int) ≤ k := by omega
      rw [nx] at CN
      by_cases h16 : k ≤ 16
      · have h17 : x.size ≤ 16 := by omega
        rw [tx, if_pos h17] at CX
        rw [decide_eq_true h17, Bool.true_and] at CN
        have d1 : ¬ (16 : Int) < k := by omega
        have d2 : decide ((16 : Int) < k) = false := decide_eq_false d1
        obtain ⟨q, hq⟩ : ∃ q, kwB x.toList = q := ⟨_, rfl⟩
        rw [hq] at CN CK
        clear xs1 ys1 q1 q2 q3 q4 tx ty nx hmx hXs hX hY hq h17 HC0 HC1 HD0 HD1
        go_wp2_with fail
        refine (CX.out _).mono ?_
        rintro e u1 ⟨v1, rfl, o1, b1'⟩
        obtain ⟨p1, s1, rfl, S1⟩ := tw_sl o1
        simp only at S1
        obtain ⟨g1, i1, rfl, x0, x1, x2⟩ := S1 0 (by simp)
        change u1.cell? ⟨g1, i1, none⟩ = some (.int .i64 1) at x0
        change u1.cell? ⟨g1, i1 + 1, none⟩ = some (.int .i64 2) at x1
        change u1.cell? ⟨g1, i1 + 2, none⟩ = some (.string x) at x2
        simp only [List.length_cons, List.length_nil]
        have K1 := hB.trans (b1'.mono hB.size)
        clear o1 S1 b1' CX
        go_wp2_with fail
        refine (CY.out _).mono ?_
        rintro e u2 ⟨v2, rfl, o2, b2'⟩
        obtain ⟨p2, s2, rfl, S2⟩ := tw_sl o2
        simp only at S2
        obtain ⟨g2, i2, rfl, y0, y1, y2⟩ := S2 0 (by simp)
        change u2.cell? ⟨g2, i2, none⟩ = some (.int .i64 2) at y0
        change u2.cell? ⟨g2, i2 + 1, none⟩ = some (.int .i64 0) at y1
        change u2.cell? ⟨g2, i2 + 2, none⟩ = some (.string y) at y2
        simp only [List.length_cons, List.length_nil]
        have x0 := kpd b2' x0
        have x1 := kpd b2' x1
        have x2 := kpd b2' x2
        have K2 := K1.trans (b2'.mono K1.size)
        clear o2 S2 b2' CY
        cases q
        all_goals
          go_wp2_with fail
          refine (CN.out _).mono ?_
          rintro e w' ⟨rfl, rfl⟩
          go_wp2_with fail
          refine (CK.out _).mono ?_
          rintro e w' ⟨rfl, rfl⟩
          go_wp2_with fail
          refine (EX.out _).mono ?_
          rintro e u3 ⟨rfl, b3'⟩
          go_wp2
          go_ret
          exact ⟨rfl, K2.trans (b3'.mono K2.size)⟩
      · have h17 : ¬ x.size ≤ 16 := by omega
        rw [tx, if_neg h17] at CX
        rw [decide_eq_false h17, Bool.false_and] at CN
        have d1 : (16 : Int) < k := by omega
        have d2 : decide ((16 : Int) < k) = true := decide_eq_true d1
        clear xs1 ys1 q1 q2 q3 q4 tx ty nx hmx hXs hX hY h17 HC0 HC1 HD0 HD1 CK
        go_wp2_with fail
        refine (CX.out _).mono ?_
        rintro e u1 ⟨v1, rfl, o1, b1'⟩
        obtain ⟨p1, s1, rfl, S1⟩ := tw_sl o1
        simp only [List.length_nil]
        have K1 := hB.trans (b1'.mono hB.size)
        clear o1 S1 b1' CX
        go_wp2_with fail
        refine (CY.out _).mono ?_
        rintro e u2 ⟨v2, rfl, o2, b2'⟩
        obtain ⟨p2, s2, rfl, S2⟩ := tw_sl o2
        simp only at S2
        obtain ⟨g2, i2, rfl, y0, y1, y2⟩ := S2 0 (by simp)
        change u2.cell? ⟨g2, i2, none⟩ = some (.int .i64 2) at y0
        change u2.cell? ⟨g2, i2 + 1, none⟩ = some (.int .i64 0) at y1
        change u2.cell? ⟨g2, i2 + 2, none⟩ = some (.string y) at y2
        simp only [List.length_cons, List.length_nil]
        have K2 := K1.trans (b2'.mono K1.size)
        clear o2 S2 b2' CY
        go_wp2_with fail
        refine (CN.out _).mono ?_
        rintro e w' ⟨rfl, rfl⟩
        go_wp2_with fail
        refine (EX.out _).mono ?_
        rintro e u3 ⟨rfl, b3'⟩
        go_wp2
        go_ret
        exact ⟨rfl, K2.trans (b3'.mono K2.size)⟩
end Go.Proofs.Ytipeapjbodnagaa.Lx
