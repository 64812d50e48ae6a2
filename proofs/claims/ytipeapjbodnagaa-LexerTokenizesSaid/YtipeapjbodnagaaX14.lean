/- The lexer: Tokenize of the reference. -/
import Derived.Test.YtipeapjbodnagaaX13
namespace Go.Proofs.Ytipeapjbodnagaa.Lx
open Go.ChangeShapes Go.WideShapes Go.ChangeAt Go.RowKit
open Go.Proofs.Ytipeapjbodnagaa.Nm
set_option linter.unusedVariables false

theorem own_below {w w' : World} {base : Nat} {e : TypeId} {size : Nat} {v : Value} {n : Nat} {xs : List Value} (h : w.ownsRow base e size v n xs) (hb : Below w.heap.size w w') : w'.ownsRow base e size v n xs := by
  have hlt := h.lt
  obtain ⟨hl, h⟩ := h
  refine ⟨hl, ?_⟩
  rcases h with h | ⟨g, cap, cur, hv, hg, hc, r⟩
  · exact .inl h
  · subst hv
    exact .inr ⟨g, cap, cur, rfl, hg, by rw [hb.block g (hlt g rfl).2]; exact hc, r⟩
set_option maxRecDepth 100000 in
set_option maxHeartbeats 8000000 in
theorem rtokenize (s : ByteArray) (w : World) (hs : s.size ≤ maxLen) : Calls Try.prog 32 #[.string s] w (TW (tkz s) w) := by
  by_cases h6 : 65536 < s.size
  · rw [show tkz s = ([], 0, 2) by unfold tkz; rw [if_pos h6]]
    have l1 : decide ((65536 : Int) < s.size) = true := decide_eq_true (by omega)
    have l2 : decide (65536 < s.size) = true := decide_eq_true h6
    clear h6
    go_enter Try.func32, Try.ntmps32
    go_wp2
    exact bodyPost_ret (v := .tuple #[.slice none 0 0, .int .i64 0, .int .i64 2]) (by simp [results, Try.results32, go_sem]) rfl ⟨.slice none 0 0, rfl, World.ownsRow_nil _ _ _ _, Below.refl _ _⟩
  have l1 : decide ((65536 : Int) < s.size) = false := decide_eq_false (by omega)
  have l2 : decide (65536 < s.size) = false := decide_eq_false h6
  obtain ⟨V, hV0⟩ : ∃ V, tkz s = V := ⟨_, rfl⟩
  have HV0 := Lib.hid (show tz s (s.size + 1) (skp s.data.toList 0) [] = V by rw [← hV0]; unfold tkz; rw [if_neg h6])
  rw [hV0]
  have hsz : s.size ≤ 65536 := by omega
  obtain ⟨i0, hi, hz0, hz1, hz2⟩ := info_parts info47
  have CK := Lib.hid fun (k : Nat) (hk : k ≤ s.size) w => rskip s k w hs hk
  have hmx : 65536 ≤ maxLen := by unfold maxLen; decide
  have CR := Lib.hid fun (k : Nat) w => rrun (s.extract k s.size) w (by rw [ext_size s k s.size (Nat.le_refl _)]; omega)
  have CS := Lib.hid fun (k : Nat) w => rsymbol (s.extract k s.size) w (by rw [ext_size s k s.size (Nat.le_refl _)]; omega)
  have C0 := Lib.hid fun w => (show Calls Try.prog 40 #[.string s, .int .i64 0] w fun e w' => e = .returned (.int .i64 ((skp s.data.toList 0 : Nat) : Int)) ∧ w = w' from CK.out 0 (by omega) w)
  have HL := Lib.hid (len_data s)
  have hst := skp_le (l := s.data.toList) (k := 0) (by omega)
  rw [HL.out] at hst
  clear hV0 h6 hmx
  obtain ⟨k00, hk00⟩ : ∃ k, skp s.data.toList 0 = k := ⟨_, rfl⟩
  rw [hk00] at C0 hst HV0
  clear hk00
  go_enter Try.func32, Try.ntmps32
  go_wp2_with (go_at_call 40; refine (C0.out _).mono ?_; rintro e w' ⟨rfl, rfl⟩)
  go_loopw [5, 6] (fun v a wr => ∃ (f k : Nat) (acc : List Tk), a = .int .i64 (k : Int) ∧ k ≤ s.size ∧ s.size < k + f ∧ acc.length ≤ k ∧ Below w.heap.size w wr ∧ Hid (tz s f k acc = V) ∧ Hid (wr.ownsRow w.heap.size 47 3 v acc.length (tkCs acc))) (fun _ a _ => s.size - (intOf a).toNat)
  case atStart => exact ⟨s.size + 1, k00, [], rfl, hst.2, by omega, by simp, Below.refl _ _, HV0, Lib.hid (World.ownsRow_nil _ _ _ _)⟩
  case round =>
    obtain ⟨f, k, acc, rfl, hk, hf, hac, hB, hT, hO⟩ := hrel
    by_cases hlt : k < s.size
    · have k0 : (0 : Int) ≤ k := by omega
      have k1 : (k : Int) < s.size := by omega
      obtain ⟨f, rfl⟩ : ∃ f', f = f' + 1 := ⟨f - 1, by omega⟩
      have hbd := kd_bd (l := s.data.toList) (k := k) (by rw [HL.out]; exact hlt)
      have hrk := ref_kd (l := s.data.toList) (k := k) (by rw [HL.out]; exact hlt)
      rw [HL.out] at hbd
      have Tb := Lib.hid fun h2 => (tz_bad (f := f) (acc := acc) hlt h2).symm.trans hT.out
      have Tl := Lib.hid fun h2 h3 => (tz_long (f := f) (acc := acc) hlt h2 h3).symm.trans hT.out
      have Tg := Lib.hid fun h2 h3 => (tz_go (f := f) (acc := acc) hlt h2 h3).symm.trans hT.out
      have CR2 := Lib.hid fun w => (by have h := CR.out k w; rw [ext_all] at h; exact h)
      have CS2 := Lib.hid fun w => (by have h := CS.out k w; rw [ext_all] at h; exact h)
      have hsx : (kd s.data.toList k).1 ≠ 0 → k < skp s.data.toList (kd s.data.toList k).2 ∧ skp s.data.toList (kd s.data.toList k).2 ≤ s.size := fun h => by
        have h1 := skp_le (l := s.data.toList) (k := (kd s.data.toList k).2) (by rw [HL.out]; exact hbd.2.1)
        rw [HL.out] at h1
        have := hbd.2.2 h
        omega
      have CK2 := Lib.hid (CK.out (kd s.data.toList k).2 hbd.2.1)
      obtain ⟨E, hE⟩ : ∃ E, kd s.data.toList k = E := ⟨_, rfl⟩
      rw [hE] at hbd Tb Tl Tg hsx CK2 hrk
      obtain ⟨a, b⟩ := E
      simp only at hbd Tb Tl Tg hsx CK2 hrk
      obtain ⟨⟨a0, a1⟩, b0, b1⟩ := hbd
      clear hE hT
      rcases hrk with ⟨m, hm, hrr, rfl, ha12⟩ | ⟨hrr, hss⟩
      · rw [hrr] at CR2
        unfold RW at CR2
        simp only at CR2
        have hsx2 := hsx (by omega)
        have q0 : ((m : Int) == 0) = false := beq_false_of_ne (by omega)
        have q1 : decide (m = 0) = false := decide_eq_false (by omega)
        have q2 : (m == 0) = false := beq_false_of_ne (by omega)
        by_cases hlong : a = 1 ∧ k + 16 < k + m
        · obtain ⟨rfl, h16⟩ := hlong
          have E := Lib.hid (Tl.out rfl h16)
          have h17 : (16 : Int) < m := by omega
          have h18 : decide ((16 : Int) < m) = true := decide_eq_true h17
          have h19 : decide (16 < m) = true := decide_eq_true (by omega)
          clear Tb Tl Tg hsx b1 hsx2 hrr ha12 h16
          go_wp2_with (go_at_call 69; refine (CR2.out _).mono ?_; rintro e w' ⟨rfl, rfl⟩)
          refine bodyPost_ret (v := .tuple #[.slice none 0 0, .int .i64 (k : Int), .int .i64 2]) (by simp [results, Try.results32, go_sem]) rfl ?_
          rw [← E.out]
          exact ⟨.slice none 0 0, rfl, World.ownsRow_nil _ _ _ _, hB⟩
        · have ET := Lib.hid (Tg.out (by omega) hlong)
          obtain ⟨x, hx⟩ : ∃ x, s.extract k (k + m) = x := ⟨_, rfl⟩
          have HX := Lib.hid hx
          obtain ⟨K, hK⟩ : ∃ K, skp s.data.toList (k + m) = K := ⟨_, rfl⟩
          rw [hx, hK] at ET
          rw [hK] at hsx2 CK2
          have CK2 := Lib.hid fun w => (show Calls Try.prog 40 #[.string s, .int .i64 ((k : Int) + m)] w _ from by have h := CK2.out w; rw [Int.natCast_add] at h; exact h)
          have bb : (0 : Int) ≤ m := by omega
          have bk : (0 : Int) ≤ (k : Int) + m := by omega
          have bl : (k : Int) ≤ (k : Int) + m := by omega
          have bs : (k : Int) + m ≤ s.size := by omega
          have bt : ((k : Int) + m).toNat = k + m := by omega
          clear Tb Tl Tg hsx b1 hx hK hrr
          have h17 : a = 1 → ¬ (16 : Int) < m := fun h => by omega
          rcases ha12 with ha | ha
          all_goals
            first
            | (have h16 := h17 ha
               have h18 : decide ((16 : Int) < m) = false := decide_eq_false h16
               have h19 : decide (16 < m) = false := decide_eq_false (by omega)
               have h20 : (a == 1) = true := beq_iff_eq.2 ha)
            | (have h20 : (a == 1) = false := beq_false_of_ne (by omega)
               have h21 : decide (a = 1) = false := decide_eq_false (by omega))
            clear h17 hlong ha
            go_wp2_with (first
              | (go_at_call 69; refine (CR2.out _).mono ?_; rintro e w' ⟨rfl, rfl⟩)
              | (go_at_call 40; refine (CK2.out _).mono ?_; rintro e w' ⟨rfl, rfl⟩)
              | (at_builtin; refine wpList_append_own _ rfl _ _ 41 rfl w.heap.size 47 i0 (.agg #[.int .i64 0, .int .i64 0, .string ⟨#[]⟩]) 3 32 Try.underlying41 hi hz0 hz1 hz2 rfl (by decide) _ _ _ rfl (hO.out.alloc _) ⟨wr.heap.size, 0, none⟩ 1 1 [.int .i64 a, .int .i64 (k : Int), .string (s.extract k (k + m))] rfl rfl ?_ ?_ ?_ ?_ ?_ ?_))
            · intro j u hj
              rcases j with _ | _ | _ | j
              · cases hj; go_cell
              · cases hj; go_cell
              · cases hj; go_cell
              · simp at hj
            · intro u hu
              simp at hu
              rcases hu with rfl | rfl | rfl <;> rfl
            · unfold maxLen; omega
            · omega
            · have := hB.size; simp; omega
            intro v' w1 hown' hgrow _
            have hO2 : Hid (w1.ownsRow w.heap.size 47 3 v' (acc ++ [(a, (k : Int), x)]).length (tkCs (acc ++ [(a, (k : Int), x)]))) := Lib.hid (by
              have h := hown'
              rw [HX.out] at h
              rw [tkCs_snoc, List.length_append]
              exact h)
            have hB2 : Below w.heap.size w w1 := (hB.alloc hB.size _).grown hgrow (by have := hB.size; simp; omega) (fun j hj => by have := (hO.out.lt j hj).1; omega)
            clear hown' hgrow hi hz0 hz1 hz2
            go_wp2_with (go_at_call 40; refine (CK2.out _).mono ?_; rintro e w' ⟨rfl, rfl⟩)
            go_roundw
            case rel => exact ⟨f, K, acc ++ [(a, (k : Int), x)], rfl, hsx2.2, by omega, by simp; omega, hB2, ET, hO2⟩
            case measure => simp [intOf]; omega
      · rw [hrr] at CR2
        unfold RW at CR2
        simp only at CR2
        have CR3 := Lib.hid fun w => (show Calls Try.prog 69 #[.string (s.extract k s.size)] w fun e w' => e = .returned (.tuple #[.int .i64 0, .int .i64 0]) ∧ w = w' from CR2.out w)
        clear CR2 hrr
        rcases hss with ⟨rfl, h0⟩ | ⟨rfl, hkm, hpos⟩
        · rw [h0] at CS2
          have CS3 := Lib.hid fun w => (show Calls Try.prog 70 #[.string (s.extract k s.size)] w fun e w' => e = .returned (.int .i64 0) ∧ Below w.heap.size w w' from CS2.out w)
          have E := Lib.hid (Tb.out rfl)
          clear Tb Tl Tg hsx b1 h0 CS2
          go_wp2_with (first | (go_at_call 69; refine (CR3.out _).mono ?_; rintro e w' ⟨rfl, rfl⟩) | (go_at_call 70; refine (CS3.out _).mono ?_; rintro e wq ⟨rfl, hbq⟩))
          refine bodyPost_ret (v := .tuple #[.slice none 0 0, .int .i64 (k : Int), .int .i64 5]) (by simp [results, Try.results32, go_sem]) rfl ?_
          rw [← E.out]
          exact ⟨.slice none 0 0, rfl, World.ownsRow_nil _ _ _ _, hB.trans (hbq.mono hB.size)⟩
        · obtain ⟨m, hm⟩ : ∃ m, ss (s.data.toList.drop k) = m := ⟨_, rfl⟩
          rw [hm] at CS2 hkm hpos
          subst hkm
          have hsx2 := hsx (by decide)
          have q0 : ((m : Int) == 0) = false := beq_false_of_ne (by omega)
          have q1 : decide (m = 0) = false := decide_eq_false (by omega)
          have q2 : (m == 0) = false := beq_false_of_ne (by omega)
          have ET := Lib.hid (Tg.out (by decide) (fun h => absurd h.1 (by decide)))
          obtain ⟨x, hx⟩ : ∃ x, s.extract k (k + m) = x := ⟨_, rfl⟩
          have HX := Lib.hid hx
          obtain ⟨K, hK⟩ : ∃ K, skp s.data.toList (k + m) = K := ⟨_, rfl⟩
          rw [hx, hK] at ET
          rw [hK] at hsx2 CK2
          have CK2 := Lib.hid fun w => (show Calls Try.prog 40 #[.string s, .int .i64 ((k : Int) + m)] w _ from by have h := CK2.out w; rw [Int.natCast_add] at h; exact h)
          have bb : (0 : Int) ≤ m := by omega
          have bk : (0 : Int) ≤ (k : Int) + m := by omega
          have bl : (k : Int) ≤ (k : Int) + m := by omega
          have bs : (k : Int) + m ≤ s.size := by omega
          have bt : ((k : Int) + m).toNat = k + m := by omega
          obtain ⟨a, ha⟩ : ∃ a : Int, a = 3 := ⟨3, rfl⟩
          clear Tb Tl Tg hsx b1 hx hK hm
          go_wp2_with fail
          refine (CR3.out _).mono ?_
          rintro e w' ⟨rfl, rfl⟩
          go_wp2_with fail
          refine (CS2.out _).mono ?_
          rintro e wq ⟨rfl, hbq⟩
          have hOq := Lib.hid (own_below hO.out hbq)
          have hBq := hB.trans (hbq.mono hB.size)
          have hszq := hbq.size
          clear hbq CS2 CR3 hO hB
          go_wp2_with (at_builtin; refine wpList_append_own _ rfl _ _ 41 rfl w.heap.size 47 i0 (.agg #[.int .i64 0, .int .i64 0, .string ⟨#[]⟩]) 3 32 Try.underlying41 hi hz0 hz1 hz2 rfl (by decide) _ _ _ rfl (hOq.out.alloc _) ⟨wq.heap.size, 0, none⟩ 1 1 [.int .i64 3, .int .i64 (k : Int), .string (s.extract k (k + m))] rfl rfl ?_ ?_ ?_ ?_ ?_ ?_)
          · intro j u hj
            rcases j with _ | _ | _ | j
            · cases hj; go_cell
            · cases hj; go_cell
            · cases hj; go_cell
            · simp at hj
          · intro u hu
            simp at hu
            rcases hu with rfl | rfl | rfl <;> rfl
          · unfold maxLen; omega
          · omega
          · have := hBq.size; simp; omega
          intro v' w1 hown' hgrow _
          have hO2 : Hid (w1.ownsRow w.heap.size 47 3 v' (acc ++ [(3, (k : Int), x)]).length (tkCs (acc ++ [(3, (k : Int), x)]))) := Lib.hid (by
            have h := hown'
            rw [HX.out] at h
            rw [tkCs_snoc, List.length_append]
            exact h)
          have hB2 : Below w.heap.size w w1 := (hBq.alloc hBq.size _).grown hgrow (by have := hBq.size; simp; omega) (fun j hj => by have := (hOq.out.lt j hj).1; omega)
          clear hown' hgrow hi hz0 hz1 hz2
          go_wp2_with (go_at_call 40; refine (CK2.out _).mono ?_; rintro e w' ⟨rfl, rfl⟩)
          go_roundw
          case rel => exact ⟨f, K, acc ++ [(3, (k : Int), x)], rfl, hsx2.2, by omega, by simp; omega, hB2, ET, hO2⟩
          case measure => simp [intOf]; omega
    · have E := Lib.hid ((tz_end (s := s) (f := f) (acc := acc) (by omega)).symm.trans hT.out)
      clear hT
      go_wp2
      refine bodyPost_ret (v := .tuple #[u5, .int .i64 0, .int .i64 0]) (by simp [results, Try.results32, go_sem]) rfl ?_
      rw [← E.out]
      exact ⟨_, rfl, hO.out, hB⟩
end Go.Proofs.Ytipeapjbodnagaa.Lx
