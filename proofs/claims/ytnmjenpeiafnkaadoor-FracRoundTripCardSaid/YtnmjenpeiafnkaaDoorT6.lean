/- The reference: the value of an integer. -/
import Derived.Test.YtnmjenpeiafnkaaDoorT5
namespace Go.Proofs.YtnmjenpeiafnkaaDoor.Tx
open Go.ChangeShapes Go.WideShapes Go.ChangeAt Go.RowKit
open Fr
set_option maxRecDepth 8000
set_option linter.unusedVariables false
set_option linter.unusedSimpArgs false

set_option maxHeartbeats 4000000 in
theorem rv_p (s : ByteArray) (w : World) (V : Nat) (hs : s.size ≤ maxLen) (p1 : 0 < s.size) (z1 : ((s[0].toNat : Int) == 45) = false) (hd : Hid (∀ k (h : k < s.size), 0 ≤ k → isD s[k] = true)) (hV : V = nv10 0 (s.data.toList.drop 0))
    (H1 : Hid (∀ k (h : k < s.size), 0 ≤ k → 2147483647 < nv10 0 (s.data.toList.take  (k + 1)) → 2147483647 < V)) :
    Calls Tryd.prog 58 #[.string s] w fun e w' => e = .returned (if V ≤ 2147483647 then .tuple #[.int .i64 ((V : Int)), .bool true] else .tuple #[.int .i64 0, .bool false]) ∧ w = w' := by
  unfold maxLen at hs
  have H2 : Hid (∀ e, (if V ≤ 2147483647 then Value.tuple #[.int .i64 ((V : Int)), .bool true] else .tuple #[.int .i64 0, .bool false]) = e → e = e) := Lib.hid fun e h => rfl
  have HV := Lib.hid hV
  have hsz := Lib.size_eq s
  obtain ⟨E, hE⟩ : ∃ E, (if V ≤ 2147483647 then Value.tuple #[.int .i64 ((V : Int)), .bool true] else .tuple #[.int .i64 0, .bool false]) = E := ⟨_, rfl⟩
  rw [hE]
  have HE := Lib.hid hE
  have HS := Lib.hid hsz
  clear hV hE H2 hsz
  go_enter Tryd.func58, Tryd.ntmps58
  go_wp2
  go_loop [4, 5] (fun n i => ∃ k q : Nat, n = .int .i64 q ∧ i = .int .i64 k ∧ k ≤ s.size ∧ q ≤ 2147483647 ∧ Hid (q = nv10 0 (s.data.toList.take k))) (fun _ i => s.size - (intOf i).toNat)
  case atStart => exact ⟨0, 0, rfl, rfl, Nat.zero_le _, by omega, Lib.hid (by rw [List.take_zero]; rfl)⟩
  case round =>
    obtain ⟨k, q, rfl, rfl, hk, hq, HQ⟩ := hrel
    by_cases hlt : k < s.size
    · have kk : (0 : Int) ≤ k := by omega
      have k2 : (k : Int) < s.size := by omega
      have H3 := HE
      have hdk := hd.out k hlt (by omega)
      unfold isD at hdk
      rw [decide_eq_true_iff] at hdk
      have g3 : (48 : Int) ≤ s[k].toNat := by omega
      have g4 : (s[k].toNat : Int) ≤ 57 := by omega
      have g5 : ((s[k].toNat : Int) == 45) = false := by simp; omega
      have HM : Hid (q * 10 + (s[k].toNat - 48) = nv10 0 (s.data.toList.take  (k + 1))) := Lib.hid (by
        rw [get_list rfl k hlt (by rw [← HS.out]; exact hlt)]
        rw [HQ.out]
        rw [List.take_succ_eq_append_getElem (by rw [← HS.out]; exact hlt), nv_snoc])
      obtain ⟨m, hm⟩ : ∃ m : Nat, q * 10 + (s[k].toNat - 48) = m := ⟨_, rfl⟩
      have hmi : (q : Int) * 10 + ((s[k].toNat : Int) - 48) = m := by omega
      rw [hm] at HM
      clear hdk z1
      by_cases hbig : 2147483647 < m
      · have hVb := H1.out k hlt (by omega) (by rw [← HM.out]; exact hbig)
        have hEE : E = .tuple #[.int .i64 0, .bool false] := by rw [← HE.out, if_neg (by omega)]
        subst hEE
        have g6 : decide ((2147483647 : Int) < m) = true := by simp; omega
        clear HM HQ H1 HE H3 HV HS hd hVb hm
        go_wp2
        go_ret2
        exact ⟨rfl, rfl⟩
      · have g6 : decide ((2147483647 : Int) < m) = false := by simp; omega
        clear HQ H3 hm
        go_wp2
        go_round
        case rel => exact ⟨k + 1, m, rfl, by go_num, by omega, by omega, HM⟩
        case measure => simp [intOf]; omega
    · obtain rfl : k = s.size := by omega
      have hqV : q = V := by
        rw [HQ.out, HV.out]
        congr 1
        rw [List.take_of_length_le (by rw [← HS.out]; omega), List.drop_zero]
      subst hqV
      have hEE : E = .tuple #[.int .i64 ((q : Int)), .bool true] := by rw [← HE.out, if_pos hq]
      subst hEE
      have p2 : (0 : Int) < s.size := by omega
      clear HQ HE HV HS H1 hd
      go_wp2
      go_ret2
      exact ⟨rfl, rfl⟩

set_option maxHeartbeats 4000000 in
theorem rv_n (s : ByteArray) (w : World) (V : Nat) (hs : s.size ≤ maxLen) (p1 : 0 < s.size) (z1 : ((s[0].toNat : Int) == 45) = true) (hd : Hid (∀ k (h : k < s.size), 1 ≤ k → isD s[k] = true)) (hV : V = nv10 0 (s.data.toList.drop 1))
    (H1 : Hid (∀ k (h : k < s.size), 1 ≤ k → 2147483647 < nv10 0 ((s.data.toList.drop 1).take ( (k + 1) - 1)) → 2147483647 < V)) :
    Calls Tryd.prog 58 #[.string s] w fun e w' => e = .returned (if V ≤ 2147483647 then .tuple #[.int .i64 (-(V : Int)), .bool true] else .tuple #[.int .i64 0, .bool false]) ∧ w = w' := by
  unfold maxLen at hs
  have H2 : Hid (∀ e, (if V ≤ 2147483647 then Value.tuple #[.int .i64 (-(V : Int)), .bool true] else .tuple #[.int .i64 0, .bool false]) = e → e = e) := Lib.hid fun e h => rfl
  have HV := Lib.hid hV
  have hsz := Lib.size_eq s
  obtain ⟨E, hE⟩ : ∃ E, (if V ≤ 2147483647 then Value.tuple #[.int .i64 (-(V : Int)), .bool true] else .tuple #[.int .i64 0, .bool false]) = E := ⟨_, rfl⟩
  rw [hE]
  have HE := Lib.hid hE
  have HS := Lib.hid hsz
  clear hV hE H2 hsz
  go_enter Tryd.func58, Tryd.ntmps58
  go_wp2
  go_loop [4, 5] (fun n i => ∃ k q : Nat, n = .int .i64 q ∧ i = .int .i64 k ∧ k ≤ s.size ∧ q ≤ 2147483647 ∧ Hid (q = nv10 0 ((s.data.toList.drop 1).take (k - 1)))) (fun _ i => s.size - (intOf i).toNat)
  case atStart => exact ⟨0, 0, rfl, rfl, Nat.zero_le _, by omega, Lib.hid (by rw [Nat.zero_sub, List.take_zero]; rfl)⟩
  case round =>
    obtain ⟨k, q, rfl, rfl, hk, hq, HQ⟩ := hrel
    by_cases hlt : k < s.size
    · have kk : (0 : Int) ≤ k := by omega
      have k2 : (k : Int) < s.size := by omega
      have H3 := HE
      by_cases hk0 : k = 0
      · subst hk0
        have hq0 : q = 0 := by have h := HQ.out; rw [Nat.zero_sub, List.take_zero] at h; exact h
        subst hq0
        have HN : Hid ((0 : Nat) = nv10 0 ((s.data.toList.drop 1).take (1 - 1))) := Lib.hid (by rw [Nat.sub_self, List.take_zero]; rfl)
        have z2 := z1
        clear HQ H3
        go_wp2
        go_round
        case rel => exact ⟨1, 0, rfl, by go_num, by omega, by omega, HN⟩
        case measure => simp [intOf]; omega
      have hdk := hd.out k hlt (by omega)
      unfold isD at hdk
      rw [decide_eq_true_iff] at hdk
      have g3 : (48 : Int) ≤ s[k].toNat := by omega
      have g4 : (s[k].toNat : Int) ≤ 57 := by omega
      have g5 : ((s[k].toNat : Int) == 45) = false := by simp; omega
      have HM : Hid (q * 10 + (s[k].toNat - 48) = nv10 0 ((s.data.toList.drop 1).take ( (k + 1) - 1))) := Lib.hid (by
        rw [get_list rfl k hlt (by rw [← HS.out]; exact hlt)]
        rw [HQ.out]
        rw [show k + 1 - 1 = (k - 1) + 1 by omega, List.take_succ_eq_append_getElem (by rw [List.length_drop, ← HS.out]; omega), nv_snoc]; have e1 : 1 + (k - 1) = k := (by omega); simp only [List.getElem_drop, e1])
      obtain ⟨m, hm⟩ : ∃ m : Nat, q * 10 + (s[k].toNat - 48) = m := ⟨_, rfl⟩
      have hmi : (q : Int) * 10 + ((s[k].toNat : Int) - 48) = m := by omega
      rw [hm] at HM
      clear hdk z1
      by_cases hbig : 2147483647 < m
      · have hVb := H1.out k hlt (by omega) (by rw [← HM.out]; exact hbig)
        have hEE : E = .tuple #[.int .i64 0, .bool false] := by rw [← HE.out, if_neg (by omega)]
        subst hEE
        have g6 : decide ((2147483647 : Int) < m) = true := by simp; omega
        clear HM HQ H1 HE H3 HV HS hd hVb hm
        go_wp2
        go_ret2
        exact ⟨rfl, rfl⟩
      · have g6 : decide ((2147483647 : Int) < m) = false := by simp; omega
        clear HQ H3 hm
        go_wp2
        go_round
        case rel => exact ⟨k + 1, m, rfl, by go_num, by omega, by omega, HM⟩
        case measure => simp [intOf]; omega
    · obtain rfl : k = s.size := by omega
      have hqV : q = V := by
        rw [HQ.out, HV.out]
        congr 1
        rw [List.take_of_length_le (by rw [List.length_drop, ← HS.out]; omega)]
      subst hqV
      have hEE : E = .tuple #[.int .i64 (-(q : Int)), .bool true] := by rw [← HE.out, if_pos hq]
      subst hEE
      have p2 : (0 : Int) < s.size := by omega
      clear HQ HE HV HS H1 hd
      go_wp2
      go_ret2
      exact ⟨rfl, rfl⟩

theorem nv_take_le (l : List UInt8) (k : Nat) : nv10 0 (l.take k) ≤ nv10 0 l := by
  have h := nv_append 0 (l.take k) (l.drop k)
  rw [List.take_append_drop] at h
  rw [h]
  exact nv_ge _ _
theorem r_value (s : ByteArray) (w : World) (hs : s.size ≤ maxLen) (h : Tx.whole s.data.toList = true) :
    Calls Tryd.prog 58 #[.string s] w fun e w' => e = .returned (if fit s.data.toList then .tuple #[.int .i64 (sv s.data.toList), .bool true] else .tuple #[.int .i64 0, .bool false]) ∧ w = w' := by
  have hp := whole_size h
  obtain ⟨h1, h2, h3⟩ := whole_parts h
  have hsz := Lib.size_eq s
  obtain ⟨l, hl⟩ : ∃ l, s.data.toList = l := ⟨_, rfl⟩
  have hhn := head_neg hl hp
  have hge : ∀ k (h : k < s.size), s[k] = l[k]'(by rw [← hl, ← hsz]; exact h) := fun k h => get_list hl k h _
  rw [hl] at h1 h2 hsz ⊢
  have hfit : ∀ e1 e2 : Value, (if fit l then e1 else e2) = if av l ≤ 2147483647 then e1 else e2 := fun e1 e2 => by
    unfold fit
    by_cases hc : av l ≤ 2147483647
    · rw [if_pos hc, if_pos (decide_eq_true hc)]
    · rw [if_neg hc, if_neg (by simp; omega)]
  rw [hfit]
  cases hn : neg l
  · have hb : bd l = l := by unfold bd; rw [if_neg (by rw [hn]; decide)]
    have ha : av l = nv10 0 l := by unfold av; rw [hb]
    rw [show sv l = (av l : Int) by unfold sv; rw [if_neg (by rw [hn]; decide)]]
    refine rv_p s w (av l) hs hp (by rw [hhn, hn]) (Lib.hid fun k hk _ => ?_) (by rw [hl, ha]; rfl) (Lib.hid fun k hk _ hb => ?_)
    · rw [hge k hk]; rw [hb] at h2; exact List.all_eq_true.1 h2 _ (List.getElem_mem _)
    · rw [ha]; rw [hl] at hb; have := nv_take_le l (k + 1); omega
  · have hb : bd l = l.drop 1 := by unfold bd; rw [if_pos hn, List.drop_one]
    have ha : av l = nv10 0 (l.drop 1) := by unfold av; rw [hb]
    rw [show sv l = -(av l : Int) by unfold sv; rw [if_pos hn]]
    refine rv_n s w (av l) hs hp (by rw [hhn, hn]) (Lib.hid fun k hk h1 => ?_) (by rw [hl, ha]) (Lib.hid fun k hk _ hb => ?_)
    · rw [hge k hk]; rw [hb] at h2
      exact List.all_eq_true.1 h2 _ (List.mem_drop_iff_getElem.2 ⟨k - 1, by omega, by congr 1; omega⟩)
    · rw [ha]; rw [hl] at hb; have := nv_take_le (l.drop 1) (k + 1 - 1); omega
end Go.Proofs.YtnmjenpeiafnkaaDoor.Tx
