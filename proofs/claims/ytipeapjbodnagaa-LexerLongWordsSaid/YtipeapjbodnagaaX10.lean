/- The lexer: the statement that the tokens cover the text. -/
import Derived.Test.YtipeapjbodnagaaX8
import Derived.Test.YtipeapjbodnagaaX9
namespace Go.Proofs.Ytipeapjbodnagaa.Lx
open Go.ChangeShapes Go.WideShapes Go.ChangeAt Go.RowKit
open Go.Proofs.Ytipeapjbodnagaa.Nm
set_option linter.unusedVariables false

/-- The tokens stand one behind the other, with white space and comments between them. -/
def cover (s : ByteArray) : Nat → List Tk → Prop
  | a, [] => skp s.data.toList a = s.size
  | a, t :: r => t.2.1 = ((skp s.data.toList a : Nat) : Int) ∧ a ≤ skp s.data.toList a ∧ ∃ b, skp s.data.toList a < b ∧ b ≤ s.size ∧ t.2.2 = s.extract (skp s.data.toList a) b ∧ cover s b r
theorem tz_cover (s : ByteArray) : ∀ (f a : Nat) (acc ts : List Tk), a ≤ s.size → s.size < skp s.data.toList a + f → tz s f (skp s.data.toList a) acc = (ts, 0, 0) → ∃ r, ts = acc ++ r ∧ cover s a r
  | 0, a, acc, ts, ha, hf, h => by
    have := skp_le (l := s.data.toList) (k := a) (by rw [len_data]; exact ha)
    rw [len_data] at this
    omega
  | f + 1, a, acc, ts, ha, hf, h => by
    have hle := skp_le (l := s.data.toList) (k := a) (by rw [len_data]; exact ha)
    rw [len_data] at hle
    by_cases hlt : skp s.data.toList a < s.size
    · have hbd := kd_bd (l := s.data.toList) (k := skp s.data.toList a) (by rw [len_data]; exact hlt)
      rw [len_data] at hbd
      by_cases h0 : (kd s.data.toList (skp s.data.toList a)).1 = 0
      · rw [tz_bad hlt h0] at h
        simp at h
      · by_cases hlong : (kd s.data.toList (skp s.data.toList a)).1 = 1 ∧ skp s.data.toList a + 16 < (kd s.data.toList (skp s.data.toList a)).2
        · rw [tz_long hlt hlong.1 hlong.2] at h
          simp at h
        · rw [tz_go hlt h0 hlong] at h
          have hb := hbd.2.2 h0
          have hle2 := skp_le (l := s.data.toList) (k := (kd s.data.toList (skp s.data.toList a)).2) (by rw [len_data]; exact hbd.2.1)
          obtain ⟨r, hr, hc⟩ := tz_cover s f (kd s.data.toList (skp s.data.toList a)).2 _ ts hbd.2.1 (by omega) h
          exact ⟨_ :: r, by rw [hr, List.append_assoc]; rfl, rfl, hle.1, _, hb, hbd.2.1, rfl, hc⟩
    · rw [tz_end (by omega)] at h
      simp only [Prod.mk.injEq, and_true] at h
      exact ⟨[], by rw [← h]; simp, by show skp s.data.toList a = s.size; omega⟩
theorem tkz_cover {s : ByteArray} {ts : List Tk} (h : tkz s = (ts, 0, 0)) : cover s 0 ts := by
  unfold tkz at h
  split at h
  · simp at h
  · obtain ⟨r, hr, hc⟩ := tz_cover s _ 0 [] ts (by omega) (by omega) h
    rw [hr]; exact hc
/-- An error comes without tokens. -/
theorem tz_err (s : ByteArray) : ∀ (f k : Nat) (acc : List Tk), (tz s f k acc).2.2 = 0 ∧ (tz s f k acc).2.1 = 0 ∨ ((tz s f k acc).2.2 ≠ 0 ∧ (tz s f k acc).1 = [])
  | 0, k, acc => .inl ⟨rfl, rfl⟩
  | f + 1, k, acc => by
    by_cases hlt : k < s.size
    · by_cases h0 : (kd s.data.toList k).1 = 0
      · rw [tz_bad hlt h0]; exact .inr ⟨by show (5 : Int) ≠ 0; decide, rfl⟩
      · by_cases hlong : (kd s.data.toList k).1 = 1 ∧ k + 16 < (kd s.data.toList k).2
        · rw [tz_long hlt hlong.1 hlong.2]; exact .inr ⟨by show (2 : Int) ≠ 0; decide, rfl⟩
        · rw [tz_go hlt h0 hlong]; exact tz_err s f _ _
    · rw [tz_end (by omega)]; exact .inl ⟨rfl, rfl⟩
theorem tkz_err (s : ByteArray) : (tkz s).2.2 = 0 ∧ (tkz s).2.1 = 0 ∨ ((tkz s).2.2 ≠ 0 ∧ (tkz s).1 = []) := by
  unfold tkz
  split
  · exact .inr ⟨by show (2 : Int) ≠ 0; decide, rfl⟩
  · exact tz_err s _ _ _
set_option maxRecDepth 100000 in
set_option maxHeartbeats 8000000 in
theorem law_cover (s : ByteArray) (w : World) (hs : s.size ≤ maxLen) : Calls Try.prog 9 #[.string s] w fun e w' => e = .returned (.bool true) ∧ Below w.heap.size w w' := by
  have EX := Lib.hid exams
  by_cases h5 : 5000 < s.size
  · have l1 : decide ((5000 : Int) < s.size) = true := decide_eq_true (by omega)
    have l2 : decide (5000 < s.size) = true := decide_eq_true h5
    go_enter Try.func9, Try.ntmps9
    go_wp2_with (go_at_call 30; refine (EX.out _).mono ?_; rintro e w1 ⟨rfl, hb1⟩)
    go_ret
    exact ⟨rfl, hb1⟩
  have l1 : decide ((5000 : Int) < s.size) = false := decide_eq_false (by omega)
  have l2 : decide (5000 < s.size) = false := decide_eq_false h5
  have CT := Lib.hid (tokenize s w hs)
  have CK := Lib.hid fun (k : Nat) (hk : k ≤ s.size) w => rskip s k w hs hk
  have TE := tkz_err s
  have TC := fun ts => tkz_cover (s := s) (ts := ts)
  obtain ⟨V, hV⟩ : ∃ V, tkz s = V := ⟨_, rfl⟩
  rw [hV] at CT TE TC
  obtain ⟨ts, x, y⟩ := V
  clear hV
  by_cases hy : y = 0
  · subst hy
    have hx : x = 0 := by rcases TE with h | h; · exact h.2
                          · exact absurd rfl h.1
    subst hx
    have HC := Lib.hid (TC ts rfl)
    clear TE TC
    go_enter Try.func9, Try.ntmps9
    go_wp2_with fail
    refine CT.out.mono ?_
    rintro e w1 ⟨v, rfl, hown, hb1⟩
    obtain ⟨p, c, rfl, hS⟩ := tw_sl hown
    have HS := Lib.hid hS
    have hn : ts.length ≤ maxLen := by
      rcases hown.2 with ⟨_, h⟩ | ⟨g, cap, cur, hv, _, _, h1, h2, _⟩
      · simp only at h; omega
      · simp only at h1; omega
    unfold maxLen at hn
    simp only
    clear hown hS CT
    go_wp2_with fail
    go_loopw [6, 7] (fun at_ i wr => ∃ a k : Nat, at_ = .int .i64 (a : Int) ∧ i = .int .i64 (k : Int) ∧ a ≤ s.size ∧ k ≤ ts.length ∧ Below w1.heap.size w1 wr ∧ Hid (cover s a (ts.drop k))) (fun _ i _ => ts.length - (intOf i).toNat)
    case atStart => exact ⟨0, 0, rfl, rfl, by omega, by omega, Below.refl _ _, HC⟩
    case round =>
      obtain ⟨a, k, rfl, rfl, ha, hk, hB, hC⟩ := hrel
      by_cases hlt : k < ts.length
      · obtain ⟨b, o, rfl, c0, c1, c2⟩ := HS.out k hlt
        have hb : b < w1.heap.size := by have := World.block_lt_of_cell? w1 _ c0; simpa using this
        have c0 := kpb hB hb c0
        have c1 := kpb hB hb c1
        have c2 := kpb hB hb c2
        have hd : ts.drop k = ts.getD k tk0 :: ts.drop (k + 1) := by rw [List.drop_eq_getElem_cons hlt, List.getD, List.getElem?_eq_getElem hlt]; rfl
        have hC2 := hC.out
        rw [hd] at hC2
        obtain ⟨t, ht⟩ : ∃ t, ts.getD k tk0 = t := ⟨_, rfl⟩
        rw [ht] at hC2 c0 c1 c2
        clear ht hd
        obtain ⟨t0, t1, t2⟩ := t
        obtain ⟨e1, e2, B, e3, e4, e5, e6⟩ := hC2
        simp only at e1 e5 c0 c1 c2
        have CK2 := Lib.hid (CK.out a ha)
        obtain ⟨K, hK⟩ : ∃ K, skp s.data.toList a = K := ⟨_, rfl⟩
        rw [hK] at e1 e2 e3 e5 CK2
        subst e1
        have hxs : t2.size = B - K := by rw [e5]; exact ext_size s K B e4
        have E5 := Lib.hid e5
        have HKB : Hid ((K : Int) + t2.size = B) := Lib.hid (by omega)
        have HC3 : Hid (cover s B (ts.drop (k + 1))) := Lib.hid e6
        have hxi : (t2.size : Int) = (B : Int) - K := by omega
        have z0 : decide (t2.size = 0) = false := decide_eq_false (by omega)
        have z1 : ((t2.size : Int) == 0) = false := beq_false_of_ne (by omega)
        have z2 : decide ((K : Int) < a) = false := decide_eq_false (by omega)
        have z3 : decide ((s.size : Int) - K < t2.size) = false := decide_eq_false (by omega)
        have k0 : (0 : Int) ≤ k := by omega
        have k1 : (k : Int) < ts.length := by omega
        have a0 : (0 : Int) ≤ (K : Int) := by omega
        have a1 : (K : Int) ≤ (K : Int) + t2.size := by omega
        have a2 : (K : Int) + t2.size ≤ s.size := by omega
        have sx : s.size ≤ 5000 := by omega
        have z4 : (t2.size : Int) ≤ (s.size : Int) - K := by omega
        have y1 : IntKind.i64.wrap ((s.size : Int) - K) = (s.size : Int) - K := IntWalk.i64_in _ (by omega)
        have y2 : IntKind.i64.wrap ((K : Int) + t2.size) = (K : Int) + t2.size := IntWalk.i64_in _ (by omega)
        have y3 : (0 : Int) ≤ (K : Int) + t2.size := by omega
        have y4 : ((K : Int) + t2.size).toNat = K + t2.size := by omega
        have y5 : s.extract K (K + t2.size) = t2 := by rw [hxs, show K + (B - K) = B by omega]; exact e5.symm
        clear e5 e6 hK hC hxs hxi
        go_wp2
        go_quiet (fail)
        go_wp2
        have CK3 := Lib.hid fun w => (CK2.out w).mono fun e w' h => (show e = .returned (.int .i64 (K : Int)) ∧ w' = w from ⟨h.1, h.2.symm⟩)
        have hB2 := below_drewN hB nq
        have c2' : (wr.drewN nq).cell? ⟨b, o + k * 3 + 2, none⟩ = some (.string t2) := c2
        clear c0 c1 c2 hB
        generalize wr.drewN nq = W at *
        go_quiet ((go_at_call 40; exact Calls.quiet_of_same (CK3.out _)))
        go_wp2
        go_roundw
        case rel => exact ⟨B, k + 1, by rw [← HKB.out], by go_num, by omega, by omega, below_drewN hB2 _, HC3⟩
        case measure => simp [intOf]; omega
      · obtain rfl : k = ts.length := by omega
        have hC2 := hC.out
        rw [List.drop_length] at hC2
        have E : skp s.data.toList a = s.size := hC2
        have CK2 := Lib.hid (CK.out a ha)
        rw [E] at CK2
        clear hC2 E hC
        go_wp2_with fail
        refine (CK2.out _).mono ?_
        rintro e w2 ⟨rfl, rfl⟩
        go_wp2_with fail
        refine (EX.out _).mono ?_
        rintro e w2 ⟨rfl, hb2⟩
        have K1 := hb1.trans (hB.mono hb1.size)
        go_wp2
        go_ret
        exact ⟨rfl, K1.trans (hb2.mono K1.size)⟩
  · rcases TE with h | ⟨h, hts⟩
    · exact absurd h.1 hy
    · simp only at hts
      subst hts
      have e1 : (y == 0) = false := beq_false_of_ne hy
      have e2 : (y != 0) = true := bne_iff_ne.2 hy
      clear h hy TC
      go_enter Try.func9, Try.ntmps9
      go_wp2_with fail
      refine CT.out.mono ?_
      rintro e w1 ⟨v, rfl, hown, hb1⟩
      obtain ⟨p, c, rfl, hS⟩ := tw_sl hown
      simp only [List.length_nil]
      clear hown hS CT
      go_wp2_with fail
      refine (EX.out _).mono ?_
      rintro e w2 ⟨rfl, hb2⟩
      go_wp2
      go_ret
      exact ⟨rfl, hb1.trans (hb2.mono hb1.size)⟩
end Go.Proofs.Ytipeapjbodnagaa.Lx
