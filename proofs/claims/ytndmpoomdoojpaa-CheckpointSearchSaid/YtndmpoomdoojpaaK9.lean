/- Table of the reference. -/
import Derived.Test.YtndmpoomdoojpaaK6
import Derived.Test.YtndmpoomdoojpaaKM2
namespace Go.Proofs.Ytndmpoomdoojpaa.Ck
open Go.ChangeShapes Go.WideShapes Go.ChangeAt Go.RowKit
set_option linter.unusedVariables false

theorem info3 : (Try.prog.info? 3).map (fun i => (i.zero, i.size, i.bytes)) = some (some (.int .i64 0), 1, 8) := by kernel_rfl
theorem info34 : (Try.prog.info? 34).map (fun i => (i.zero, i.size, i.bytes)) = some (some (.slice none 0 0), 1, 24) := by kernel_rfl
theorem own_below {w w' : World} {base : Nat} {e : TypeId} {size : Nat} {v : Value} {n : Nat} {xs : List Value} (h : w.ownsRow base e size v n xs) (hb : Below w.heap.size w w') : w'.ownsRow base e size v n xs := by
  have hlt := h.lt
  obtain ⟨hl, h⟩ := h
  refine ⟨hl, ?_⟩
  rcases h with h | ⟨g, cap, cur, hv, hg, hc, r⟩
  · exact .inl h
  · subst hv
    exact .inr ⟨g, cap, cur, rfl, hg, by rw [hb.block g (hlt g rfl).2]; exact hc, r⟩
theorem own_any {w : World} {base n : Nat} {e : TypeId} {v : Value} {xs : List Value} (h : w.ownsRow base e 1 v n xs) : ∃ q cap, v = .slice q n cap ∧ (0 < n → ∃ g, q = some ⟨g, 0, none⟩) := by
  rcases h.2 with ⟨rfl, hn⟩ | ⟨g, cap, cur, rfl, hb, hg, hnc, r⟩
  · exact ⟨none, 0, by rw [hn], fun h => by omega⟩
  · exact ⟨_, cap, rfl, fun _ => ⟨g, rfl⟩⟩
/-- Values that are slices of the call's own, read as lists. -/
def Rows (w : World) (base : Nat) (vals : List Value) (ls : List (List Int)) : Prop := vals.length = ls.length ∧ ∀ i, i < ls.length → w.ownsRow base 3 1 (vals.getD i (.bool false)) (ls.getD i []).length ((ls.getD i []).map (Value.int .i64))
theorem Rows.nil (w : World) (base : Nat) : Rows w base [] [] := ⟨rfl, fun i hi => by simp at hi⟩
theorem Rows.below {w w' : World} {base : Nat} {vals : List Value} {ls : List (List Int)} (h : Rows w base vals ls) (hb : Below w.heap.size w w') : Rows w' base vals ls := ⟨h.1, fun i hi => own_below (h.2 i hi) hb⟩
theorem own_ne {w : World} {b1 b2 : Nat} {e1 e2 : TypeId} {s1 s2 n1 n2 : Nat} {v1 v2 : Value} {x1 x2 : List Value} (h1 : w.ownsRow b1 e1 s1 v1 n1 x1) (h2 : w.ownsRow b2 e2 s2 v2 n2 x2) (hne : e1 ≠ e2) : v1.ownBlock = none ∨ v1.ownBlock ≠ v2.ownBlock := by
  rcases h1.2 with ⟨rfl, _⟩ | ⟨g, cap, cur, rfl, _, hg, _⟩
  · exact .inl rfl
  · refine .inr fun e => ?_
    rcases h2.2 with ⟨rfl, _⟩ | ⟨g2, cap2, cur2, rfl, _, hg2, _⟩
    · cases e
    · have : g = g2 := by simpa [Value.ownBlock] using e
      subst this
      rw [hg] at hg2
      have := Option.some.inj hg2
      injection this with _ h _
      exact hne h
theorem Rows.kept {w w' : World} {base : Nat} {vals : List Value} {ls : List (List Int)} {v : Value} {n : Nat} {xs : List Value} {b2 : Nat} {e2 : TypeId} {s2 : Nat} (h : Rows w base vals ls) (hv : w.ownsRow b2 e2 s2 v n xs) (hne : 3 ≠ e2) (hg : w.grownBy w' v.ownBlock) : Rows w' base vals ls :=
  ⟨h.1, fun i hi => (h.2 i hi).kept hg (own_ne (h.2 i hi) hv hne)⟩
theorem Rows.snoc {w : World} {base : Nat} {vals : List Value} {ls : List (List Int)} {v : Value} {l : List Int} (h : Rows w base vals ls) (hv : w.ownsRow base 3 1 v l.length (l.map (Value.int .i64))) : Rows w base (vals ++ [v]) (ls ++ [l]) := by
  refine ⟨by simp [h.1], fun i hi => ?_⟩
  by_cases hlt : i < ls.length
  · rw [show (vals ++ [v]).getD i (.bool false) = vals.getD i (.bool false) by simp [List.getD, List.getElem?_append_left (show i < vals.length by rw [h.1]; exact hlt)], show (ls ++ [l]).getD i [] = ls.getD i [] by simp [List.getD, List.getElem?_append_left hlt]]
    exact h.2 i hlt
  · have he : i = ls.length := by rw [List.length_append] at hi; simp at hi; omega
    subst he
    rw [show (vals ++ [v]).getD ls.length (.bool false) = v by simp [List.getD, ← h.1], show (ls ++ [l]).getD ls.length [] = l by simp [List.getD]]
    exact hv
/-- A slice of slices of integers that the call has made. -/
def LW (ls : List (List Int)) (w : World) (e : Ending) (w' : World) : Prop := ∃ v vals, e = .returned v ∧ Below w.heap.size w w' ∧ w'.ownsRow w.heap.size 34 1 v ls.length vals ∧ Rows w' w.heap.size vals ls
def rp (s j : Nat) : List Int := (List.range j).map fun (n : Nat) => co n s
def tb (L k : Nat) : List (List Int) := (List.range k).map fun s => rp s L
theorem rp_len (s j : Nat) : (rp s j).length = j := by simp [rp]
theorem tb_len (L k : Nat) : (tb L k).length = k := by simp [tb]
theorem rp_get {s j i : Nat} (h : i < j) : (rp s j).getD i 0 = co i s := by simp [rp, List.getD, h]
theorem tb_get {L k i : Nat} (h : i < k) : (tb L k).getD i [] = rp i L := by simp [tb, List.getD, h]
theorem rp_succ (s j : Nat) : rp s (j + 1) = rp s j ++ [co j s] := by unfold rp; rw [List.range_succ, List.map_append]; rfl
theorem tb_succ (L k : Nat) : tb L (k + 1) = tb L k ++ [rp k L] := by unfold tb; rw [List.range_succ, List.map_append]; rfl
theorem bl_step {prev row : List Int} {n m : Nat} : bl prev row n (m + 1) = min (bl prev row n m) (((m + 1 : Nat) : Int) + prev.getD (n - (m + 1)) 0 + row.getD (m + 1) 0) := rfl
theorem co_nat {n s : Nat} (h : n < 65) (h2 : s < 65) : 0 ≤ co (n : Int) (s : Int) ∧ co (n : Int) (s : Int) ≤ 2016 := co_bd (by omega) (by omega) (by omega) (by omega)
set_option maxRecDepth 100000 in
set_option maxHeartbeats 16000000 in
theorem table (N S : Nat) (w : World) (hN : N ≤ 64) (hS : S ≤ 64) : Calls Try.prog 23 #[.int .i64 (N : Int), .int .i64 (S : Int)] w (LW (tb (N + 1) (S + 1)) w) := by
  obtain ⟨i0, hi, hz0, hz1, hz2⟩ := info_parts info3
  obtain ⟨i1, gi, gz0, gz1, gz2⟩ := info_parts info34
  obtain ⟨L, hL⟩ : ∃ L, N + 1 = L := ⟨_, rfl⟩
  rw [hL]
  go_enter Try.func23, Try.ntmps23
  go_wp2
  go_loopw [5, 6] (fun v i wr => ∃ (k : Nat) (vals : List Value), i = .int .i64 k ∧ k ≤ S + 1 ∧ Below w.heap.size w wr ∧ Hid (wr.ownsRow w.heap.size 34 1 v k vals) ∧ Hid (Rows wr w.heap.size vals (tb L k))) (fun _ i _ => S + 1 - (intOf i).toNat)
  case atStart => exact ⟨0, [], rfl, by omega, Below.refl _ _, Lib.hid (World.ownsRow_nil _ _ _ _), Lib.hid (Rows.nil _ _)⟩
  case round =>
    obtain ⟨k, vals, rfl, hk, KB, hO, hR⟩ := hrel
    obtain ⟨q5, cap5, rfl, hq5⟩ := own_any hO.out
    have HQ5 := Lib.hid hq5
    clear hq5
    have kk : (0 : Int) ≤ k := by omega
    by_cases hkS : k ≤ S
    · have kS : (k : Int) ≤ S := by omega
      go_wp2
      obtain ⟨wo, hwo⟩ : ∃ wo, wo = wr := ⟨_, rfl⟩
      rw [← hwo] at hO hR KB ⊢
      clear hwo wr
      go_loopw [7, 8] (fun v i wr => ∃ (j : Nat), i = .int .i64 j ∧ j ≤ L ∧ Below wo.heap.size wo wr ∧ Hid (wr.ownsRow wo.heap.size 3 1 v j ((rp k j).map (Value.int .i64)))) (fun _ i _ => L - (intOf i).toNat)
      case atStart => exact ⟨0, rfl, by omega, Below.refl _ _, Lib.hid (World.ownsRow_nil _ _ _ _)⟩
      case round =>
        obtain ⟨j, rfl, hj, KM, hV⟩ := hrel
        obtain ⟨q7, cap7, rfl, hq7⟩ := own_any hV.out
        have HQ7 := Lib.hid hq7
        clear hq7
        have jj : (0 : Int) ≤ j := by omega
        by_cases hjN : j ≤ N
        · have jN : (j : Int) ≤ N := by omega
          have p0 : 0 ≤ (j : Int) * ((j : Int) - 1) := by
            rcases (by omega : j = 0 ∨ 1 ≤ j) with rfl | h
            · decide
            · exact Int.mul_nonneg (by omega) (by omega)
          have p2 := rec_zero (n := j) (by omega)
          have p3 : 0 ≤ co (j : Int) 0 ∧ co (j : Int) 0 ≤ 2016 := co_nat (n := j) (s := 0) (by omega) (by omega)
          have p4 : (j : Int) * ((j : Int) - 1) ≤ 4096 := by
            rcases (by omega : j = 0 ∨ 1 ≤ j) with rfl | h
            · decide
            · have := Int.mul_le_mul (show (j : Int) ≤ 64 by omega) (show (j : Int) - 1 ≤ 64 by omega) (by omega) (by omega); omega
          have HB0 : Hid ((j : Int) * ((j : Int) - 1) / 2 = bl (R (k - 1)) (R k) j 0) := Lib.hid rfl
          have HZ : Hid (k = 0 → bl (R (k - 1)) (R k) j 0 = co j k) := Lib.hid fun h => by subst h; exact p2
          rw [← p2] at p3
          obtain ⟨P, hP⟩ : ∃ P, (j : Int) * ((j : Int) - 1) = P := ⟨_, rfl⟩
          rw [hP] at p0 p4 HB0 p3
          obtain ⟨B, hB⟩ : ∃ B, P / 2 = B := ⟨_, rfl⟩
          rw [hB] at HB0 p3
          obtain ⟨b0, b1⟩ := p3
          clear p2
          go_wp2
          have HBq := Lib.hid hB
          clear hP hB
          obtain ⟨wm, hwm⟩ : ∃ wm, wm = wr := ⟨_, rfl⟩
          rw [← hwm] at KM hV ⊢
          clear hwm wr
          go_loopw [9, 10] (fun b i wr => ∃ (m d : Nat) (x : Int), wr = wm.drewN d ∧ b = .int .i64 x ∧ i = .int .i64 m ∧ 1 ≤ m ∧ (m ≤ j ∨ m = 1) ∧ (k = 0 → m = 1) ∧ 0 ≤ x ∧ x ≤ 2016 ∧ Hid (x = bl (R (k - 1)) (R k) j (m - 1))) (fun _ i _ => j - (intOf i).toNat)
          case atStart => exact ⟨1, 0, B, rfl, by first | rfl | rw [HBq.out], rfl, by omega, by omega, fun _ => rfl, b0, b1, HB0⟩
          case round =>
            obtain ⟨m, d, x, rfl, rfl, rfl, m1, hmj, hm0, x0, x1, hx⟩ := hrel
            have HM0 := Lib.hid hm0
            clear hm0
            have mm : (0 : Int) ≤ m := by omega
            by_cases hin : m < j ∧ 0 < k
            · obtain ⟨hmlt, hk0⟩ := hin
              obtain ⟨p, hp⟩ : ∃ p : Nat, k = p + 1 := ⟨k - 1, by omega⟩
              obtain ⟨u, hu⟩ : ∃ u : Nat, j - m = u := ⟨_, rfl⟩
              obtain ⟨g, hg⟩ := HQ5.out hk0
              subst hg
              obtain ⟨g7, hg7⟩ := HQ7.out (by omega)
              subst hg7
              have hOm := own_below hO.out KM
              have hrow := (hR.out.below KM).2 p (by rw [tb_len]; omega)
              rw [tb_get (by omega), rp_len] at hrow
              obtain ⟨q1, cap1, hv1, hq1⟩ := own_any hrow
              obtain ⟨g1, hg1⟩ := hq1 (by omega)
              subst hg1
              rw [hv1] at hrow
              have cO : wm.cell? ⟨g, p, none⟩ = some (.slice (some ⟨g1, 0, none⟩) L cap1) := by
                have hlen := hR.out.1
                rw [tb_len] at hlen
                rw [hOm.cellAt p (by omega), ← hv1, List.getD, List.getElem?_eq_getElem (by omega)]
                rfl
              have cA := cellT hrow (j := u) (by omega) (rp_len p L)
              rw [rp_get (by omega)] at cA
              have cB := cellT hV.out (j := m) hmlt (rp_len k j)
              rw [rp_get hmlt] at cB
              obtain ⟨a0, a1⟩ := co_nat (n := u) (s := p) (by omega) (by omega)
              obtain ⟨c0, c1⟩ := co_nat (n := m) (s := k) (by omega) (by omega)
              have hs : bl (R (k - 1)) (R k) j m = min x ((m : Int) + co u p + co m k) := by
                obtain ⟨m', rfl⟩ : ∃ m', m = m' + 1 := ⟨m - 1, by omega⟩
                rw [bl_step, R_get (by omega), R_get (by omega), hx.out, hu, show k - 1 = p by omega]
                rfl
              have HS := Lib.hid hs
              obtain ⟨A, hA⟩ : ∃ A, co (u : Int) (p : Int) = A := ⟨_, rfl⟩
              obtain ⟨C, hC⟩ : ∃ C, co (m : Int) (k : Int) = C := ⟨_, rfl⟩
              rw [hA] at cA a0 a1 HS
              rw [hC] at cB c0 c1 HS
              have uL : (u : Int) < L := by omega
              have uu : (0 : Int) ≤ u := by omega
              have pk : (p : Int) < k := by omega
              have pp : (0 : Int) ≤ p := by omega
              have mj : (m : Int) < j := by omega
              have tw1 : IntKind.i64.wrap ((k : Int) - 1) = (p : Int) := by rw [IntWalk.i64_in _ (by omega)]; omega
              have tw2 : IntKind.i64.wrap ((j : Int) - m) = (u : Int) := by rw [IntWalk.i64_in _ (by omega)]; omega
              have tw3 : IntKind.i64.wrap ((m : Int) + A) = m + A := IntWalk.i64_in _ (by omega)
              have tw4 : IntKind.i64.wrap ((m : Int) + A + C) = m + A + C := IntWalk.i64_in _ (by omega)
              have d1 : decide ((m : Int) < j) = true := decide_eq_true mj
              have d2 : decide (m < j) = true := decide_eq_true hmlt
              have d3 : decide ((0 : Int) < k) = true := decide_eq_true (by omega)
              have d4 : decide (0 < k) = true := decide_eq_true hk0
              have hk0' := Lib.hid hk0
              have r0 : 0 ≤ (m : Int) + A + C := by omega
              have r1 : m + 1 ≤ j := by omega
              clear hs hA hC hOm hrow hv1 hu hp hx HB0 HZ
              by_cases hmin : (m : Int) + A + C < x
              · have HX2 : Hid ((m : Int) + A + C = bl (R (k - 1)) (R k) j (m + 1 - 1)) := Lib.hid (by rw [Nat.add_sub_cancel, HS.out, Int.min_eq_right (by omega)])
                have r2 : (m : Int) + A + C ≤ 2016 := by omega
                clear HS
                go_wp2
                go_quiet (fail)
                clear tw1 tw2 tw3 tw4
                go_wp2
                go_roundw
                case rel => exact ⟨m + 1, _, (m : Int) + A + C, by first | rfl | rw [World.drewN_drewN], rfl, by go_num, by omega, Or.inl r1, fun h => absurd h (by have := hk0'.out; omega), r0, r2, HX2⟩
                case measure => simp [intOf]; omega
              · have HX2 : Hid (x = bl (R (k - 1)) (R k) j (m + 1 - 1)) := Lib.hid (by rw [Nat.add_sub_cancel, HS.out, Int.min_eq_left (by omega)])
                have dm : decide ((m : Int) + A + C < x) = false := decide_eq_false hmin
                clear HS
                go_wp2
                go_quiet (fail)
                clear tw1 tw2 tw3 tw4
                go_wp2
                go_roundw
                case rel => exact ⟨m + 1, _, x, by first | rfl | rw [World.drewN_drewN], rfl, by go_num, by omega, Or.inl r1, fun h => absurd h (by have := hk0'.out; omega), x0, x1, HX2⟩
                case measure => simp [intOf]; omega
            · have e : x = co (j : Int) (k : Int) := by
                rw [hx.out]
                by_cases k0 : k = 0
                · rw [HM0.out k0]; exact HZ.out k0
                · rw [show m - 1 = j - 1 by omega]
                  obtain ⟨p, rfl⟩ : ∃ p, k = p + 1 := ⟨k - 1, by omega⟩
                  exact rec_ok (by omega) (by omega)
              have E := Lib.hid e
              clear e hx HB0 HZ
              have VD : Hid ((wm.drewN d).ownsRow wo.heap.size 3 1 (.slice q7 j cap7) j ((rp k j).map (Value.int .i64))) := Lib.hid hV.out
              have KD : Below wo.heap.size wo (wm.drewN d) := below_drewN KM d
              have hcase : (decide ((m : Int) < j) = true ∧ decide (m < j) = true ∧ decide ((0 : Int) < k) = false ∧ decide (0 < k) = false) ∨ (decide ((m : Int) < j) = false ∧ decide (m < j) = false) := by
                by_cases h : m < j
                · exact .inl ⟨decide_eq_true (by omega), decide_eq_true h, decide_eq_false (by omega), decide_eq_false (by omega)⟩
                · exact .inr ⟨decide_eq_false (by omega), decide_eq_false h⟩
              clear hin
              have hko := KD.size
              generalize wm.drewN d = wd at *
              rcases hcase with ⟨d1, d2, d3, d4⟩ | ⟨d1, d2⟩
              all_goals
                go_wp2_with (at_builtin; refine wpList_append_own _ rfl _ _ 34 rfl wo.heap.size 3 i0 (.int .i64 0) 1 8 Try.underlying34 hi hz0 hz1 hz2 rfl (by decide) _ _ _ rfl (VD.out.alloc _) ⟨wd.heap.size, 0, none⟩ 1 1 [.int .i64 x] rfl rfl ?_ ?_ ?_ ?_ ?_ ?_)
                any_goals (first | (intro j' u hj; cases j' with | zero => (cases hj; go_cell) | succ j' => cases hj) | (intro u hu; cases List.mem_singleton.1 hu; rfl) | rfl | (unfold maxLen; omega) | omega | (simp; omega) | skip)
                intro v' w3 hown' hgrow _
                have hO3 : Hid (w3.ownsRow wo.heap.size 3 1 v' (j + 1) ((rp k (j + 1)).map (Value.int .i64))) := Lib.hid (by
                  have h := hown'
                  rw [rp_succ, List.map_append, ← E.out]
                  exact h)
                have hlt2 := VD.out.lt
                have hB3 : Below wo.heap.size wo w3 := (KD.alloc hko _).grown hgrow (by simp; omega) (fun j' hj' => (hlt2 j' hj').1)
                clear hown' hgrow hi hz0 hz1 hz2 hlt2 VD KD E d1 d2
                go_wp2
                go_roundw
                case rel => exact ⟨j + 1, by go_num, by omega, hB3, hO3⟩
                case measure => simp [intOf]; omega
        · obtain rfl : j = L := by omega
          have hOm := Lib.hid (own_below hO.out KM)
          have hRm := Lib.hid (hR.out.below KM)
          have KW2 : Below w.heap.size w wr := KB.trans (KM.mono KB.size)
          have VM := Lib.hid (hV.out.mono (base' := w.heap.size) KB.size)
          have hkw := KW2.size
          clear hO hR KM hV KB HQ7
          go_wp2_with (at_builtin; refine wpList_append_own _ rfl _ _ 35 rfl w.heap.size 34 i1 (.slice none 0 0) 1 24 Try.underlying35 gi gz0 gz1 gz2 rfl (by decide) _ _ _ rfl (hOm.out.alloc _) ⟨wr.heap.size, 0, none⟩ 1 1 [.slice q7 j cap7] rfl rfl ?_ ?_ ?_ ?_ ?_ ?_)
          any_goals (first | (intro j' u hj; cases j' with | zero => (cases hj; go_cell) | succ j' => cases hj) | (intro u hu; cases List.mem_singleton.1 hu; rfl) | rfl | (unfold maxLen; omega) | omega | (simp; omega) | skip)
          intro v' w4 hown' hgrow _
          have hO4 : Hid (w4.ownsRow w.heap.size 34 1 v' (k + 1) (vals ++ [.slice q7 j cap7])) := Lib.hid hown'
          have A1 : Below wr.heap.size wr (wr.alloc (Obj.cells #[Value.slice q7 j cap7] 34)) := (Below.refl _ _).alloc (Nat.le_refl _) _
          have R4 : Hid (Rows w4 w.heap.size (vals ++ [.slice q7 j cap7]) (tb j (k + 1))) := Lib.hid (by
            rw [tb_succ]
            refine Rows.snoc ((hRm.out.below A1).kept (hOm.out.alloc _) (by decide) hgrow) ?_
            have h := (own_below VM.out A1).kept hgrow (own_ne (own_below VM.out A1) (hOm.out.alloc _) (by decide))
            rw [rp_len]
            exact h)
          have hlt2 := hOm.out.lt
          have K4 : Below w.heap.size w w4 := (KW2.alloc hkw _).grown hgrow (by simp; omega) (fun j' hj' => (hlt2 j' hj').1)
          clear hown' hgrow gi gz0 gz1 gz2 hlt2 A1 hOm hRm VM KW2
          go_wp2
          go_roundw
          case rel => exact ⟨k + 1, _, by go_num, by omega, K4, hO4, R4⟩
          case measure => simp [intOf]; omega
    · obtain rfl : k = S + 1 := by omega
      go_wp2
      go_ret
      exact ⟨_, vals, rfl, KB, by rw [tb_len]; exact hO.out, hR.out⟩
end Go.Proofs.Ytndmpoomdoojpaa.Ck
