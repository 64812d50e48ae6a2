/- The stable sort of a row of integers. -/
import Derived.Test.YtghnigmmkenddaaS9
import Derived.Test.YtghnigmmkenddaaS1
namespace Go.Proofs.Ytghnigmmkenddaa.Ar
open Go.ChangeShapes Go.WideShapes Go.ChangeAt Go.RowKit

set_option linter.unusedVariables false
set_option linter.unusedSimpArgs false

/-- The blocks before a are sorted, each below what follows. -/
inductive PreC (cf : Int → Int → Int) (bs n : Nat) (L : List Int) : Nat → Prop
  | zero : PreC cf bs n L 0
  | snoc {a : Nat} : PreC cf bs n L a → SrtC cf a (a + bs) L → Sp 0 (a + bs) n L → PreC cf bs n L (a + bs)
/-- The blocks from a on are sorted, the last of them up to n. -/
inductive BlkC (cf : Int → Int → Int) (bs n : Nat) (L : List Int) : Nat → Prop
  | done {a : Nat} : n ≤ a → BlkC cf bs n L a
  | step {a : Nat} : SrtC cf a (min (a + bs) n) L → Sp 0 (a + bs) n L → BlkC cf bs n L (a + bs) → BlkC cf bs n L a
variable {cf : Int → Int → Int}
theorem PreC.keep {bs n a c d : Nat} {L L' : List Int} (P : PreC cf bs n L a) (r : RngC c d L L') (hd : d ≤ n) : a ≤ c → PreC cf bs n L' a := by
  induction P with
  | zero => intro _; exact .zero
  | snoc P S Q ih => intro h; exact .snoc (ih (by omega)) (S.keep r (Or.inl h)) (Q.over r hd (Or.inl h))
theorem BlkC.keep {bs n a c d : Nat} {L L' : List Int} (P : BlkC cf bs n L a) (r : RngC c d L L') (hd : d ≤ n) : d ≤ a → BlkC cf bs n L' a := by
  induction P with
  | done h => intro _; exact .done h
  | step S Q P ih => intro h; exact .step (S.keep r (Or.inr h)) (Q.over r hd (Or.inr (by omega))) (ih (by omega))
theorem PreC.all {bs n a : Nat} {L : List Int} (P : PreC cf bs n L a) : a ≤ n → BlkC cf bs n L a → BlkC cf bs n L 0 := by
  induction P with
  | zero => intro _ h; exact h
  | @snoc a P S Q ih => intro h B; exact ih (by omega) (.step (by rw [show min (a + bs) n = a + bs by omega]; exact S) Q B)
theorem BlkC.two {bs n a : Nat} {L : List Int} (B : BlkC cf bs n L a) (h : a + bs < n) : SrtC cf a (a + bs) L ∧ SrtC cf (a + bs) (min (a + bs + bs) n) L ∧ Sp 0 (a + bs) n L ∧ Sp 0 (a + bs + bs) n L ∧ BlkC cf bs n L (a + bs + bs) := by
  cases B with
  | done h2 => exact absurd h2 (by omega)
  | step S Q B =>
    rw [show min (a + bs) n = a + bs by omega] at S
    cases B with
    | done h2 => exact absurd h2 (by omega)
    | step S2 Q2 B2 => exact ⟨S, S2, Q, Q2, B2⟩
theorem BlkC.one {bs n a : Nat} {L : List Int} (B : BlkC cf bs n L a) (h : n ≤ a + bs) : SrtC cf a n L := by
  cases B with
  | done h2 => intro i j i1 ij j1; omega
  | step S Q B => rw [show min (a + bs) n = n by omega] at S; exact S
theorem Sp.far {c n : Nat} {L : List Int} (h : n ≤ c) : Sp 0 c n L := fun p q _ _ q1 q2 => absurd q2 (by omega)
theorem BlkC.last {bs n a : Nat} {L : List Int} (S : SrtC cf a n L) (h : n ≤ a + bs) : BlkC cf bs n L a := .step (by rw [show min (a + bs) n = n by omega]; exact S) (Sp.far h) (.done h)

theorem symV (kf : Nat) (q1 q2 : Value) (g cap base n : Nat) (D : List Int) (cf : Int → Int → Int) (O : OrdC cf) (wo : World) (hn : n ≤ 100000) (HKF : Hid (∀ args w, (Go.callFunc kf args).run Try.prog w = .ok (.enter kf args) w)) (NC : Hid (∀ x y, x ∈ D → y ∈ D → y < x → ∀ w', KG g wo w' → Calls Try.prog kf #[.int .i64 x, .int .i64 y, q1, q2] w' fun e w2 => (∃ v, e = .returned (.int .i64 v) ∧ decide (v < 0) = decide (cf x y < 0)) ∧ Below w'.heap.size w' w2)) (a m b : Nat) (L0 : List Int) (w : World) (HL : Hid (L0.length = n ∧ ∀ x ∈ L0, x ∈ D)) (h1 : a < m) (h2 : m < b) (h3 : b ≤ n) (hO : Hid (w.ownsRow base 3 1 (.slice (some ⟨g, 0, none⟩) n cap) n (rowE L0))) (KO : Hid (KG g wo w)) (hbw : base ≤ w.heap.size) (SA : Hid (SrtC cf a m L0)) (SB : Hid (SrtC cf m b L0)) (HP : Hid (Sp a m b L0)) (va vm vb : Value) (ea : va = .int .i64 (a : Int)) (em : vm = .int .i64 (m : Int)) (eb : vb = .int .i64 (b : Int)) :
    Calls Try.prog 50 #[.slice (some ⟨g, 0, none⟩) n cap, va, vm, vb, .func (.func kf) #[] #[q1, q2]] w fun e w' => e = .returned (.tuple #[]) ∧ Below base w w' ∧ KG g w w' ∧ ∃ L', RngC a b L0 L' ∧ SrtC cf a b L' ∧ Hid (w'.ownsRow base 3 1 (.slice (some ⟨g, 0, none⟩) n cap) n (rowE L')) := by
  subst ea em eb
  exact symN kf q1 q2 g cap base n D cf O wo hn HKF NC (b - a) a m b L0 w HL h1 h2 h3 (Nat.le_refl _) hO KO hbw SA SB HP

set_option maxRecDepth 100000 in
set_option maxHeartbeats 16000000 in
/-- The stable sort of a row. -/
theorem stN (kf : Nat) (q1 q2 : Value) (g cap base n : Nat) (D L0 : List Int) (cf : Int → Int → Int) (O : OrdC cf) (wo w : World) (hn : n ≤ 100000) (HL : Hid (L0.length = n ∧ ∀ x ∈ L0, x ∈ D)) (hO : Hid (w.ownsRow base 3 1 (.slice (some ⟨g, 0, none⟩) n cap) n (rowE L0))) (HKF : Hid (∀ args w, (Go.callFunc kf args).run Try.prog w = .ok (.enter kf args) w)) (NC : Hid (∀ x y, x ∈ D → y ∈ D → y < x → ∀ w', KG g wo w' → Calls Try.prog kf #[.int .i64 x, .int .i64 y, q1, q2] w' fun e w2 => (∃ v, e = .returned (.int .i64 v) ∧ decide (v < 0) = decide (cf x y < 0)) ∧ Below w'.heap.size w' w2)) (KO : Hid (KG g wo w)) (hbw : base ≤ w.heap.size) (HU : Hid (∀ c, Sp 0 c n L0)) :
    Calls Try.prog 43 #[.slice (some ⟨g, 0, none⟩) n cap, .int .i64 (n : Int), .func (.func kf) #[] #[q1, q2]] w fun e w' => e = .returned (.tuple #[]) ∧ Below base w w' ∧ KG g w w' ∧ ∃ L', RngC 0 n L0 L' ∧ SrtC cf 0 n L' ∧ Hid (w'.ownsRow base 3 1 (.slice (some ⟨g, 0, none⟩) n cap) n (rowE L')) := by
  have OO := Lib.hid O
  clear O
  go_enter Try.func43, Try.ntmps43
  go_wp2_with fail
  go_loopw [7, 8] (fun av bv wr => ∃ (a b : Nat) (L : List Int), av = .int .i64 (a : Int) ∧ bv = .int .i64 (b : Int) ∧ a ≤ n ∧ b ≤ a + 20 ∧ a + 20 ≤ b ∧ Hid (PreC cf 20 n L a) ∧ Hid (∀ c, a ≤ c → Sp 0 c n L) ∧ Hid (L.length = n ∧ ∀ x ∈ L, x ∈ D) ∧ Hid (RngC 0 n L0 L) ∧ Hid (wr.ownsRow base 3 1 (.slice (some ⟨g, 0, none⟩) n cap) n (rowE L)) ∧ Hid (Below base w wr) ∧ Hid (KG g w wr)) (fun av _ _ => n - (intOf av).toNat)
  case atStart => exact ⟨0, 20, L0, by go_num, by go_num, by omega, by omega, by omega, Lib.hid .zero, Lib.hid (fun c _ => HU.out c), HL, Lib.hid (RngC.refl _ _ _), hO, Lib.hid (Below.refl _ _), Lib.hid (KG.refl _ _)⟩
  case round =>
    clear hO HL HU
    obtain ⟨a, b, L, rfl, rfl, han, hba, hab, HP, HU, HM, HR, hOW, hB, hK⟩ := hrel
    by_cases hbn : b ≤ n
    · have i1 : (b : Int) ≤ n := by omega
      have IC : Hid (Calls Try.prog 49 #[.slice (some ⟨g, 0, none⟩) n cap, .int .i64 (a : Int), .int .i64 (b : Int), .func (.func kf) #[] #[q1, q2]] wr fun e w' => e = .returned (.tuple #[]) ∧ Below base wr w' ∧ KG g wr w' ∧ ∃ L', RngC a b L L' ∧ SrtC cf a b L' ∧ Hid (w'.ownsRow base 3 1 (.slice (some ⟨g, 0, none⟩) n cap) n (rowE L'))) := Lib.hid (Calls.mono (insN kf q1 q2 g cap base n a b D L cf wo wr hn HM (by omega) (by omega) hOW HKF NC (Lib.hid (KO.out.trans hK.out)) (by have := hB.out.size; omega) (Lib.hid (fun p q p1 pq qa qb => HU.out q qa p q (Nat.zero_le _) pq (Nat.le_refl _) (by omega)))) (by
        rintro e w' ⟨rfl, B, K, R⟩
        refine ⟨rfl, B, K, _, ?_, ?_, R⟩
        · by_cases h : a < b
          · exact (ins_sorts OO.out h (by rw [HM.out.1]; omega)).1
          · rw [ins_empty _ _ _ _ (by omega)]; exact RngC.refl _ _ _
        · by_cases h : a < b
          · exact (ins_sorts OO.out h (by rw [HM.out.1]; omega)).2
          · intro i j i1 ij j1; omega))
      go_wp2_with (go_at_call 49; (with_reducible refine IC.out.mono ?_); rintro e w1 ⟨rfl, B1, K1, L1, r1, s1, O1⟩)
      go_roundw
      case rel => exact ⟨b, b + 20, L1, by go_num, by go_num, by omega, by omega, by omega, Lib.hid (by
        have h := PreC.snoc (HP.out.keep r1 hbn (Nat.le_refl _)) (by rw [show a + 20 = b by omega]; exact s1) (by rw [show a + 20 = b by omega]; exact (HU.out b (by omega)).over r1 hbn (Or.inr (Nat.le_refl _)))
        rw [show a + 20 = b by omega] at h; exact h), Lib.hid (fun c hc => (HU.out c (by omega)).over r1 hbn (Or.inr hc)), Lib.hid ⟨by rw [r1.len]; exact HM.out.1, fun x hx => HM.out.2 _ (r1.perm.mem_iff.mp hx)⟩, Lib.hid (HR.out.trans (r1.mono (by omega) (by omega))), O1, Lib.hid (hB.out.trans B1), Lib.hid (hK.out.trans K1)⟩
      case measure => simp [intOf]; omega
    · have i1 : ¬ (b : Int) ≤ n := by omega
      have IC : Hid (Calls Try.prog 49 #[.slice (some ⟨g, 0, none⟩) n cap, .int .i64 (a : Int), .int .i64 (n : Int), .func (.func kf) #[] #[q1, q2]] wr fun e w' => e = .returned (.tuple #[]) ∧ Below base wr w' ∧ KG g wr w' ∧ ∃ L', RngC a n L L' ∧ SrtC cf a n L' ∧ Hid (w'.ownsRow base 3 1 (.slice (some ⟨g, 0, none⟩) n cap) n (rowE L'))) := Lib.hid (Calls.mono (insN kf q1 q2 g cap base n a n D L cf wo wr hn HM (by omega) (by omega) hOW HKF NC (Lib.hid (KO.out.trans hK.out)) (by have := hB.out.size; omega) (Lib.hid (fun p q p1 pq qa qb => HU.out q qa p q (Nat.zero_le _) pq (Nat.le_refl _) (by omega)))) (by
        rintro e w' ⟨rfl, B, K, R⟩
        refine ⟨rfl, B, K, _, ?_, ?_, R⟩
        · by_cases h : a < n
          · exact (ins_sorts OO.out h (by rw [HM.out.1]; omega)).1
          · rw [ins_empty _ _ _ _ (by omega)]; exact RngC.refl _ _ _
        · by_cases h : a < n
          · exact (ins_sorts OO.out h (by rw [HM.out.1]; omega)).2
          · intro i j i1 ij j1; omega))
      go_wp2_with (go_at_call 49; (with_reducible refine IC.out.mono ?_); rintro e w1 ⟨rfl, B1, K1, L1, r1, s1, O1⟩; have HB0 := Lib.hid (PreC.all (HP.out.keep r1 (Nat.le_refl _) (Nat.le_refl _)) han (BlkC.last s1 (by omega))); have HM1 : Hid (L1.length = n ∧ ∀ x ∈ L1, x ∈ D) := Lib.hid ⟨by rw [r1.len]; exact HM.out.1, fun x hx => HM.out.2 _ (r1.perm.mem_iff.mp hx)⟩; have HR1 := Lib.hid (HR.out.trans (r1.mono (by omega) (Nat.le_refl _))); have HB1 := Lib.hid (hB.out.trans B1); have HK1 := Lib.hid (hK.out.trans K1))
      clear HP HU HM HR hOW hB hK IC r1 s1 B1 K1
      go_loopw [6] (fun sv wr => ∃ (bs : Nat) (L : List Int), sv = .int .i64 (bs : Int) ∧ 20 ≤ bs ∧ bs ≤ n + n + 20 ∧ Hid (BlkC cf bs n L 0) ∧ Hid (L.length = n ∧ ∀ x ∈ L, x ∈ D) ∧ Hid (RngC 0 n L0 L) ∧ Hid (wr.ownsRow base 3 1 (.slice (some ⟨g, 0, none⟩) n cap) n (rowE L)) ∧ Hid (Below base w wr) ∧ Hid (KG g w wr)) (fun sv _ => n - (intOf sv).toNat)
      case atStart => exact ⟨20, L1, by go_num, by omega, by omega, HB0, HM1, HR1, O1, HB1, HK1⟩
      case round =>
        clear HB0 HM1 HR1 O1 HB1 HK1
        obtain ⟨bs, L, rfl, hbs, hbs2, HP, HM, HR, hOW, hB, hK⟩ := hrel
        by_cases hlt : bs < n
        · have i2 : (bs : Int) < n := by omega
          go_wp2_with fail
          go_loopw [7, 8] (fun av bv wr => ∃ (a b : Nat) (L : List Int), av = .int .i64 (a : Int) ∧ bv = .int .i64 (b : Int) ∧ a ≤ n ∧ b ≤ a + (bs + bs) ∧ a + (bs + bs) ≤ b ∧ Hid (PreC cf (bs + bs) n L a) ∧ Hid (BlkC cf bs n L a) ∧ Hid (L.length = n ∧ ∀ x ∈ L, x ∈ D) ∧ Hid (RngC 0 n L0 L) ∧ Hid (wr.ownsRow base 3 1 (.slice (some ⟨g, 0, none⟩) n cap) n (rowE L)) ∧ Hid (Below base w wr) ∧ Hid (KG g w wr)) (fun av _ _ => n - (intOf av).toNat)
          case atStart => exact ⟨0, bs + bs, L, by go_num, by go_num, by omega, by omega, by omega, Lib.hid .zero, HP, HM, HR, hOW, hB, hK⟩
          case round =>
            clear HP HM HR hOW hB hK
            obtain ⟨a, b, L, rfl, rfl, han, hba, hab, HP, HQ, HM, HR, hOW, hB, hK⟩ := hrel
            by_cases hbn : b ≤ n
            · have i3 : (b : Int) ≤ n := by omega
              have T := Lib.hid (HQ.out.two (by omega))
              have RC := Lib.hid (symV kf q1 q2 g cap base n D cf OO.out wo hn HKF NC a (a + bs) b L wr HM (by omega) (by omega) (by omega) hOW (Lib.hid (KO.out.trans hK.out)) (by have := hB.out.size; omega) (Lib.hid T.out.1) (Lib.hid (by have h := T.out.2.1; rw [show min (a + bs + bs) n = b by omega] at h; exact h)) (Lib.hid (T.out.2.2.1.sub (Nat.zero_le _) hbn)))
              go_wp2_with (go_at_call 50; (with_reducible refine (RC.out _ _ _ (by go_num) (by go_num) (by go_num)).mono ?_); rintro e w1 ⟨rfl, B1, K1, L1, r1, s1, O1⟩)
              go_roundw
              case rel => exact ⟨b, b + (bs + bs), L1, by go_num, by go_num, by omega, by omega, by omega, Lib.hid (by
                have h := PreC.snoc (HP.out.keep r1 hbn (Nat.le_refl _)) (by rw [show a + (bs + bs) = b by omega]; exact s1) (by rw [show a + (bs + bs) = b by omega]; exact (show a + bs + bs = b by omega) ▸ T.out.2.2.2.1.over r1 hbn (Or.inr (by omega)))
                rw [show a + (bs + bs) = b by omega] at h; exact h), Lib.hid (by
                have h := T.out.2.2.2.2.keep r1 hbn (by omega)
                rw [show a + bs + bs = b by omega] at h; exact h), Lib.hid ⟨by rw [r1.len]; exact HM.out.1, fun x hx => HM.out.2 _ (r1.perm.mem_iff.mp hx)⟩, Lib.hid (HR.out.trans (r1.mono (by omega) (by omega))), O1, Lib.hid (hB.out.trans B1), Lib.hid (hK.out.trans K1)⟩
              case measure => simp [intOf]; omega
            · have i3 : ¬ (b : Int) ≤ n := by omega
              by_cases hm : a + bs < n
              · have i4 : (a : Int) + bs < n := by omega
                have T := Lib.hid (HQ.out.two hm)
                have RC := Lib.hid (symV kf q1 q2 g cap base n D cf OO.out wo hn HKF NC a (a + bs) n L wr HM (by omega) (by omega) (Nat.le_refl _) hOW (Lib.hid (KO.out.trans hK.out)) (by have := hB.out.size; omega) (Lib.hid T.out.1) (Lib.hid (by have h := T.out.2.1; rw [show min (a + bs + bs) n = n by omega] at h; exact h)) (Lib.hid (T.out.2.2.1.sub (Nat.zero_le _) (Nat.le_refl _))))
                go_wp2_with (go_at_call 50; (with_reducible refine (RC.out _ _ _ (by go_num) (by go_num) (by go_num)).mono ?_); rintro e w1 ⟨rfl, B1, K1, L1, r1, s1, O1⟩)
                go_roundw
                case rel => exact ⟨bs + bs, L1, by go_num, by omega, by omega, Lib.hid (PreC.all (HP.out.keep r1 (Nat.le_refl _) (Nat.le_refl _)) han (BlkC.last s1 (by omega))), Lib.hid ⟨by rw [r1.len]; exact HM.out.1, fun x hx => HM.out.2 _ (r1.perm.mem_iff.mp hx)⟩, Lib.hid (HR.out.trans (r1.mono (by omega) (Nat.le_refl _))), O1, Lib.hid (hB.out.trans B1), Lib.hid (hK.out.trans K1)⟩
                case measure => simp [intOf]; omega
              · have i4 : ¬ (a : Int) + bs < n := by omega
                go_wp2_with fail
                go_roundw
                case rel => exact ⟨bs + bs, L, by go_num, by omega, by omega, Lib.hid (PreC.all HP.out han (BlkC.last (HQ.out.one (by omega)) (by omega))), HM, HR, hOW, hB, hK⟩
                case measure => simp [intOf]; omega
        · have i2 : ¬ (bs : Int) < n := by omega
          go_wp2_with fail
          go_end0
          exact ⟨rfl, hB.out, hK.out, L, HR.out, HP.out.one (by omega), hOW⟩

set_option maxRecDepth 100000 in
set_option maxHeartbeats 8000000 in
/-- SortStableFunc of a row of constraints. -/
theorem sortN (kf : Nat) (q1 q2 : Value) (g cap base n : Nat) (D L0 : List Int) (cf : Int → Int → Int) (O : OrdC cf) (wo w : World) (hn : n ≤ 100000) (HL : Hid (L0.length = n ∧ ∀ x ∈ L0, x ∈ D)) (hO : Hid (w.ownsRow base 3 1 (.slice (some ⟨g, 0, none⟩) n cap) n (rowE L0))) (HKF : Hid (∀ args w, (Go.callFunc kf args).run Try.prog w = .ok (.enter kf args) w)) (NC : Hid (∀ x y, x ∈ D → y ∈ D → y < x → ∀ w', KG g wo w' → Calls Try.prog kf #[.int .i64 x, .int .i64 y, q1, q2] w' fun e w2 => (∃ v, e = .returned (.int .i64 v) ∧ decide (v < 0) = decide (cf x y < 0)) ∧ Below w'.heap.size w' w2)) (KO : Hid (KG g wo w)) (hbw : base ≤ w.heap.size) (HU : Hid (∀ c, Sp 0 c n L0)) :
    Calls Try.prog 35 #[.slice (some ⟨g, 0, none⟩) n cap, .func (.func kf) #[] #[q1, q2]] w fun e w' => e = .returned (.tuple #[]) ∧ Below base w w' ∧ KG g w w' ∧ ∃ L', RngC 0 n L0 L' ∧ SrtC cf 0 n L' ∧ Hid (w'.ownsRow base 3 1 (.slice (some ⟨g, 0, none⟩) n cap) n (rowE L')) := by
  have IC := Lib.hid (stN kf q1 q2 g cap base n D L0 cf O wo w hn HL hO HKF NC KO hbw HU)
  go_enter Try.func35, Try.ntmps35
  go_wp2_with (go_at_call 43; (with_reducible refine IC.out.mono ?_); rintro e w1 ⟨rfl, B1, K1, L1, r1, s1, O1⟩)
  go_end0
  exact ⟨rfl, B1, K1, L1, r1, s1, O1⟩
end Go.Proofs.Ytghnigmmkenddaa.Ar
