/- The reference: Parse. -/
import Derived.Test.YtikcinkbkakkmaaGreatDoorGQ

namespace Go.Proofs.YtikcinkbkakkmaaGreatDoor.Tx
open Go.ChangeShapes Go.WideShapes Go.ChangeAt Go.RowKit
open Fr Fx
set_option maxRecDepth 8000
set_option linter.unusedVariables false
set_option linter.unusedSimpArgs false

set_option maxRecDepth 20000 in
set_option maxHeartbeats 16000000 in
theorem rparse0 (s : ByteArray) (w : World) (A : Value) (w1b f1 f2 vb : Bool) (n d a b c : Int) (hs : s.size ≤ maxLen)
    (I1 : Hid (∀ w, Calls Tryz.prog 85 #[.string s] w fun e w' => e = .returned (.bool w1b) ∧ w = w'))
    (V1 : Hid (w1b = true → ∀ w, Calls Tryz.prog 86 #[.string s] w fun e w' => e = .returned (if f1 then .tuple #[.int .i64 n, .bool true] else .tuple #[.int .i64 0, .bool false]) ∧ w = w'))
    (V2 : Hid (∀ w, Calls Tryz.prog 86 #[.string ⟨#[49]⟩] w fun e w' => e = .returned (if f2 then .tuple #[.int .i64 d, .bool true] else .tuple #[.int .i64 0, .bool false]) ∧ w = w'))
    (S1 : Hid (f1 = true → ∀ w, Calls Tryz.prog 88 #[.int .i64 n] w fun e w' => e = .returned (.int .u64 a) ∧ w = w'))
    (S2 : Hid (f2 = true → ∀ w, Calls Tryz.prog 88 #[.int .i64 d] w fun e w' => e = .returned (.int .u64 b) ∧ w = w'))
    (GC : Hid (f1 = true → f2 = true → ∀ w, Calls Tryz.prog 87 #[.int .u64 a, .int .u64 b] w (Val1 .u64 c w))) (HG : Hid ((c != 1) = !vb))
    (HA : Hid (A = if w1b = false then Frac3 0 0 5 else if f1 = false ∨ f2 = false then Frac3 0 0 3 else if vb = false then Frac3 0 0 5 else Frac3 n d 0))
    (HB : Hid (∀ k (h : k < s.size), ((s[k].toNat : Int) == 47) = false)) : Calls Tryz.prog 50 #[.string s] w (Ret A w) := by
  unfold maxLen at hs
  go_enter Tryz.func50, Tryz.ntmps50
  go_wp2
  go_loop [4, 5, 6] (fun up dn i => ∃ k : Nat, up = .string s ∧ dn = .string ⟨#[]⟩ ∧ i = .int .i64 k ∧ k ≤ s.size) (fun _ _ i => s.size - (intOf i).toNat)
  case atStart => exact ⟨0, rfl, rfl, rfl, Nat.zero_le _⟩
  case round =>
    obtain ⟨k, rfl, rfl, rfl, hk⟩ := hrel
    by_cases hlt : k < s.size
    · have kk : (0 : Int) ≤ k := by omega
      have k2 : (k : Int) < s.size := by omega
      have h9 := HB.out k hlt
      go_wp2
      go_round
      case rel => exact ⟨k + 1, rfl, rfl, by go_num, by omega⟩
      case measure => simp [intOf]; omega
    · obtain rfl : k = s.size := by omega
      cases w1b
      · clear V1 V2 GC S1 S2
        have hA : A = Frac3 0 0 5 := by simpa using HA.out
        subst hA
        clear HA
        go_wp2_with fail
        (with_reducible refine (I1.out _).mono ?_); rintro e w8 ⟨rfl, rfl⟩
        go_wp2
        refine bodyPost_ret (v := Frac3 0 0 5) (by simp [results, Tryz.results50, go_sem]) rfl ⟨rfl, ?_⟩; (repeat' (first | (with_reducible exact Below.refl _ _) | (with_reducible refine Below.alloc ?_ ?_ _) | (with_reducible refine Below.setCell ?_ ?_ _) | (with_reducible refine below_drewN ?_ _) | (simp; done) | omega | (simp; omega)))
      replace V1 := Lib.hid (V1.out rfl)
      cases f1
      · replace V1 := Lib.hid fun w => (V1.out w).mono fun _ _ h => And.intro (h.1.trans (by rw [if_neg (by decide)])) h.2
        cases f2
        · replace V2 := Lib.hid fun w => (V2.out w).mono fun _ _ h => And.intro (h.1.trans (by rw [if_neg (by decide)])) h.2
          have hA : A = Frac3 0 0 3 := by simpa using HA.out
          subst hA
          clear HA
          go_wp2_with fail
          (with_reducible refine (I1.out _).mono ?_); rintro e w8 ⟨rfl, rfl⟩
          go_wp2_with fail
          (with_reducible refine (V1.out _).mono ?_); rintro e w8 ⟨rfl, rfl⟩
          go_wp2_with fail
          (with_reducible refine (V2.out _).mono ?_); rintro e w8 ⟨rfl, rfl⟩
          go_wp2
          refine bodyPost_ret (v := Frac3 0 0 3) (by simp [results, Tryz.results50, go_sem]) rfl ⟨rfl, ?_⟩; (repeat' (first | (with_reducible exact Below.refl _ _) | (with_reducible refine Below.alloc ?_ ?_ _) | (with_reducible refine Below.setCell ?_ ?_ _) | (with_reducible refine below_drewN ?_ _) | (simp; done) | omega | (simp; omega)))
        · replace V2 := Lib.hid fun w => (V2.out w).mono fun _ _ h => And.intro (h.1.trans (by rw [if_pos rfl])) h.2
          have hA : A = Frac3 0 0 3 := by simpa using HA.out
          subst hA
          clear HA
          go_wp2_with fail
          (with_reducible refine (I1.out _).mono ?_); rintro e w8 ⟨rfl, rfl⟩
          go_wp2_with fail
          (with_reducible refine (V1.out _).mono ?_); rintro e w8 ⟨rfl, rfl⟩
          go_wp2_with fail
          (with_reducible refine (V2.out _).mono ?_); rintro e w8 ⟨rfl, rfl⟩
          go_wp2
          refine bodyPost_ret (v := Frac3 0 0 3) (by simp [results, Tryz.results50, go_sem]) rfl ⟨rfl, ?_⟩; (repeat' (first | (with_reducible exact Below.refl _ _) | (with_reducible refine Below.alloc ?_ ?_ _) | (with_reducible refine Below.setCell ?_ ?_ _) | (with_reducible refine below_drewN ?_ _) | (simp; done) | omega | (simp; omega)))
      · replace V1 := Lib.hid fun w => (V1.out w).mono fun _ _ h => And.intro (h.1.trans (by rw [if_pos rfl])) h.2
        cases f2
        · replace V2 := Lib.hid fun w => (V2.out w).mono fun _ _ h => And.intro (h.1.trans (by rw [if_neg (by decide)])) h.2
          have hA : A = Frac3 0 0 3 := by simpa using HA.out
          subst hA
          clear HA
          go_wp2_with fail
          (with_reducible refine (I1.out _).mono ?_); rintro e w8 ⟨rfl, rfl⟩
          go_wp2_with fail
          (with_reducible refine (V1.out _).mono ?_); rintro e w8 ⟨rfl, rfl⟩
          go_wp2_with fail
          (with_reducible refine (V2.out _).mono ?_); rintro e w8 ⟨rfl, rfl⟩
          go_wp2
          refine bodyPost_ret (v := Frac3 0 0 3) (by simp [results, Tryz.results50, go_sem]) rfl ⟨rfl, ?_⟩; (repeat' (first | (with_reducible exact Below.refl _ _) | (with_reducible refine Below.alloc ?_ ?_ _) | (with_reducible refine Below.setCell ?_ ?_ _) | (with_reducible refine below_drewN ?_ _) | (simp; done) | omega | (simp; omega)))
        · replace V2 := Lib.hid fun w => (V2.out w).mono fun _ _ h => And.intro (h.1.trans (by rw [if_pos rfl])) h.2
          replace S1 := Lib.hid (S1.out rfl)
          replace S2 := Lib.hid (S2.out rfl)
          replace GC := Lib.hid (GC.out rfl rfl)
          have gv := HG.out
          cases vb
          · simp only [Bool.not_false] at gv
            have hA : A = Frac3 0 0 5 := by simpa using HA.out
            subst hA
            clear HA
            go_wp2_with fail
            (with_reducible refine (I1.out _).mono ?_); rintro e w8 ⟨rfl, rfl⟩
            go_wp2_with fail
            (with_reducible refine (V1.out _).mono ?_); rintro e w8 ⟨rfl, rfl⟩
            go_wp2_with fail
            (with_reducible refine (V2.out _).mono ?_); rintro e w8 ⟨rfl, rfl⟩
            go_wp2_with fail
            (with_reducible refine (S1.out _).mono ?_); rintro e w8 ⟨rfl, rfl⟩
            go_wp2_with fail
            (with_reducible refine (S2.out _).mono ?_); rintro e w8 ⟨rfl, rfl⟩
            go_wp2_with fail
            (with_reducible refine (GC.out _).mono ?_); rintro e w8 ⟨rfl, n9, rfl⟩
            go_wp2
            refine bodyPost_ret (v := Frac3 0 0 5) (by simp [results, Tryz.results50, go_sem]) rfl ⟨rfl, ?_⟩; (repeat' (first | (with_reducible exact Below.refl _ _) | (with_reducible refine Below.alloc ?_ ?_ _) | (with_reducible refine Below.setCell ?_ ?_ _) | (with_reducible refine below_drewN ?_ _) | (simp; done) | omega | (simp; omega)))
          · simp only [Bool.not_true] at gv
            have hA : A = Frac3 n d 0 := by simpa using HA.out
            subst hA
            clear HA
            go_wp2_with fail
            (with_reducible refine (I1.out _).mono ?_); rintro e w8 ⟨rfl, rfl⟩
            go_wp2_with fail
            (with_reducible refine (V1.out _).mono ?_); rintro e w8 ⟨rfl, rfl⟩
            go_wp2_with fail
            (with_reducible refine (V2.out _).mono ?_); rintro e w8 ⟨rfl, rfl⟩
            go_wp2_with fail
            (with_reducible refine (S1.out _).mono ?_); rintro e w8 ⟨rfl, rfl⟩
            go_wp2_with fail
            (with_reducible refine (S2.out _).mono ?_); rintro e w8 ⟨rfl, rfl⟩
            go_wp2_with fail
            (with_reducible refine (GC.out _).mono ?_); rintro e w8 ⟨rfl, n9, rfl⟩
            go_wp2
            refine bodyPost_ret (v := Frac3 n d 0) (by simp [results, Tryz.results50, go_sem]) rfl ⟨rfl, ?_⟩; (repeat' (first | (with_reducible exact Below.refl _ _) | (with_reducible refine Below.alloc ?_ ?_ _) | (with_reducible refine Below.setCell ?_ ?_ _) | (with_reducible refine below_drewN ?_ _) | (simp; done) | omega | (simp; omega)))

set_option maxRecDepth 20000 in
set_option maxHeartbeats 16000000 in
theorem rparse1 (s tp bt : ByteArray) (i : Nat) (w : World) (A : Value) (w1b w2b g1b g2 g3 f1 f2 vb : Bool) (n d a b c : Int) (hs : s.size ≤ maxLen)
    (I1 : Hid (∀ w, Calls Tryz.prog 85 #[.string tp] w fun e w' => e = .returned (.bool w1b) ∧ w = w'))
    (V1 : Hid (w1b = true → ∀ w, Calls Tryz.prog 86 #[.string tp] w fun e w' => e = .returned (if f1 then .tuple #[.int .i64 n, .bool true] else .tuple #[.int .i64 0, .bool false]) ∧ w = w'))
    (V2 : Hid (w2b = true → ∀ w, Calls Tryz.prog 86 #[.string bt] w fun e w' => e = .returned (if f2 then .tuple #[.int .i64 d, .bool true] else .tuple #[.int .i64 0, .bool false]) ∧ w = w'))
    (S1 : Hid (f1 = true → ∀ w, Calls Tryz.prog 88 #[.int .i64 n] w fun e w' => e = .returned (.int .u64 a) ∧ w = w'))
    (S2 : Hid (f2 = true → ∀ w, Calls Tryz.prog 88 #[.int .i64 d] w fun e w' => e = .returned (.int .u64 b) ∧ w = w'))
    (GC : Hid (f1 = true → f2 = true → ∀ w, Calls Tryz.prog 87 #[.int .u64 a, .int .u64 b] w (Val1 .u64 c w))) (HG : Hid ((c != 1) = !vb))
    (HA : Hid (A = if w1b = false ∨ w2b = false ∨ g1b = true ∨ g2 = true ∨ g3 = true then Frac3 0 0 5 else if f1 = false ∨ f2 = false then Frac3 0 0 3 else if vb = false then Frac3 0 0 5 else Frac3 n d 0))
    (I2 : Hid (∀ w, Calls Tryz.prog 85 #[.string bt] w fun e w' => e = .returned (.bool w2b) ∧ w = w')) (hi : i < s.size) (h47 : Hid (((s[i].toNat : Int) == 47) = true)) (HB : Hid (∀ k (h : k < i), ((s[k].toNat : Int) == 47) = false))
    (ht : s.extract 0 i = tp) (hb : s.extract (i + 1) s.size = bt) (HP : Hid (w2b = true → 0 < bt.size)) (G1 : Hid (∀ h : 0 < bt.size, ((bt[0].toNat : Int) == 45) = g1b)) (G2 : Hid ((bt.toList == [48]) = g2)) (G3 : Hid ((bt.toList == [49]) = g3)) : Calls Tryz.prog 50 #[.string s] w (Ret A w) := by
  unfold maxLen at hs
  have HT := Lib.hid ht
  have HBT := Lib.hid hb
  clear ht hb
  go_enter Tryz.func50, Tryz.ntmps50
  go_wp2
  go_loop [4, 5, 6] (fun up dn iv => ∃ (k : Nat) (u v : ByteArray), up = .string u ∧ dn = .string v ∧ iv = .int .i64 k ∧ Hid ((k ≤ i ∧ u = s ∧ v = ⟨#[]⟩) ∨ (k = i + 1 ∧ u = tp ∧ v = bt ∧ w2b = true ∧ g1b = false ∧ g2 = false ∧ g3 = false))) (fun _ _ iv => s.size - (intOf iv).toNat)
  case atStart => exact ⟨0, s, ⟨#[]⟩, rfl, rfl, rfl, Lib.hid (Or.inl ⟨Nat.zero_le _, rfl, rfl⟩)⟩
  case round =>
    obtain ⟨k, u, v, rfl, rfl, rfl, HR⟩ := hrel
    rcases HR.out with ⟨hk, rfl, rfl⟩ | ⟨rfl, rfl, rfl, rfl, rfl, rfl, rfl⟩
    · have kk : (0 : Int) ≤ k := by omega
      have k2 : (k : Int) < u.size := by omega
      by_cases hlt : k < i
      · have h9 := HB.out k hlt
        clear HR
        go_wp2
        go_round
        case rel => exact ⟨k + 1, u, ⟨#[]⟩, rfl, rfl, by go_num, Lib.hid (Or.inl ⟨by omega, rfl, rfl⟩)⟩
        case measure => simp [intOf]; omega
      · obtain rfl : k = i := by omega
        have h9 := h47.out
        have ht := HT.out
        have hb := HBT.out
        have j1 : (k : Int) + 1 ≤ u.size := by omega
        have j2 : ((k : Int) + 1).toNat = k + 1 := by omega
        clear HR hlt HT HBT h47 HB V1 V2 S1 S2 GC HG I1
        cases w2b
        · have hA : A = Frac3 0 0 5 := by simpa using HA.out
          subst hA
          clear HA
          go_wp2_with fail
          (with_reducible refine (I2.out _).mono ?_); rintro e w8 ⟨rfl, rfl⟩
          go_wp2
          refine bodyPost_ret (v := Frac3 0 0 5) (by simp [results, Tryz.results50, go_sem]) rfl ⟨rfl, ?_⟩; (repeat' (first | (with_reducible exact Below.refl _ _) | (with_reducible refine Below.alloc ?_ ?_ _) | (with_reducible refine Below.setCell ?_ ?_ _) | (with_reducible refine below_drewN ?_ _) | (simp; done) | omega | (simp; omega)))
        have hp : 0 < bt.size := HP.out rfl
        have hp2 : (0 : Int) < bt.size := by omega
        have G1 := G1.out hp
        have G2 := G2.out
        have G3 := G3.out
        cases g1b
        case true =>
          have hA : A = Frac3 0 0 5 := by simpa using HA.out
          subst hA
          clear HA
          go_wp2_with fail
          (with_reducible refine (I2.out _).mono ?_); rintro e w8 ⟨rfl, rfl⟩
          go_wp2
          refine bodyPost_ret (v := Frac3 0 0 5) (by simp [results, Tryz.results50, go_sem]) rfl ⟨rfl, ?_⟩; (repeat' (first | (with_reducible exact Below.refl _ _) | (with_reducible refine Below.alloc ?_ ?_ _) | (with_reducible refine Below.setCell ?_ ?_ _) | (with_reducible refine below_drewN ?_ _) | (simp; done) | omega | (simp; omega)))
        cases g2
        case true =>
          have hA : A = Frac3 0 0 5 := by simpa using HA.out
          subst hA
          clear HA
          go_wp2_with fail
          (with_reducible refine (I2.out _).mono ?_); rintro e w8 ⟨rfl, rfl⟩
          go_wp2
          refine bodyPost_ret (v := Frac3 0 0 5) (by simp [results, Tryz.results50, go_sem]) rfl ⟨rfl, ?_⟩; (repeat' (first | (with_reducible exact Below.refl _ _) | (with_reducible refine Below.alloc ?_ ?_ _) | (with_reducible refine Below.setCell ?_ ?_ _) | (with_reducible refine below_drewN ?_ _) | (simp; done) | omega | (simp; omega)))
        cases g3
        case true =>
          have hA : A = Frac3 0 0 5 := by simpa using HA.out
          subst hA
          clear HA
          go_wp2_with fail
          (with_reducible refine (I2.out _).mono ?_); rintro e w8 ⟨rfl, rfl⟩
          go_wp2
          refine bodyPost_ret (v := Frac3 0 0 5) (by simp [results, Tryz.results50, go_sem]) rfl ⟨rfl, ?_⟩; (repeat' (first | (with_reducible exact Below.refl _ _) | (with_reducible refine Below.alloc ?_ ?_ _) | (with_reducible refine Below.setCell ?_ ?_ _) | (with_reducible refine below_drewN ?_ _) | (simp; done) | omega | (simp; omega)))
        go_wp2_with (go_at_call 85; (with_reducible refine (I2.out _).mono ?_); rintro e w8 ⟨rfl, rfl⟩)
        go_round
        case rel => exact ⟨k + 1, tp, bt, rfl, rfl, by go_num, Lib.hid (Or.inr ⟨rfl, rfl, rfl, by simp, by simp, by simp, by simp⟩)⟩
        case measure => simp [intOf]; omega
    · have hp := HP.out rfl
      have he : v.toList.isEmpty = false := by
        cases h : v.toList with
        | nil => rw [Lib.toList_data] at h; rw [Lib.size_eq, h] at hp; simp at hp
        | cons => rfl
      have he2 : (v.toList == []) = false := by
        cases h : v.toList with
        | nil => rw [h] at he; cases he
        | cons => rfl
      replace V2 := Lib.hid (V2.out rfl)
      clear HR HT HBT h47 HB I2 G1 G2 G3 HP
      obtain ⟨q, hq⟩ : ∃ q, decide ((i : Int) + 1 < s.size) = q := ⟨_, rfl⟩
      cases q
      all_goals
        cases w1b
        · clear V1 V2 GC S1 S2
          have hA : A = Frac3 0 0 5 := by simpa using HA.out
          subst hA
          clear HA
          go_wp2_with fail
          (with_reducible refine (I1.out _).mono ?_); rintro e w8 ⟨rfl, rfl⟩
          go_wp2
          refine bodyPost_ret (v := Frac3 0 0 5) (by simp [results, Tryz.results50, go_sem]) rfl ⟨rfl, ?_⟩; (repeat' (first | (with_reducible exact Below.refl _ _) | (with_reducible refine Below.alloc ?_ ?_ _) | (with_reducible refine Below.setCell ?_ ?_ _) | (with_reducible refine below_drewN ?_ _) | (simp; done) | omega | (simp; omega)))
        replace V1 := Lib.hid (V1.out rfl)
        cases f1
        · replace V1 := Lib.hid fun w => (V1.out w).mono fun _ _ h => And.intro (h.1.trans (by rw [if_neg (by decide)])) h.2
          cases f2
          · replace V2 := Lib.hid fun w => (V2.out w).mono fun _ _ h => And.intro (h.1.trans (by rw [if_neg (by decide)])) h.2
            have hA : A = Frac3 0 0 3 := by simpa using HA.out
            subst hA
            clear HA
            go_wp2_with fail
            (with_reducible refine (I1.out _).mono ?_); rintro e w8 ⟨rfl, rfl⟩
            go_wp2_with fail
            (with_reducible refine (V1.out _).mono ?_); rintro e w8 ⟨rfl, rfl⟩
            go_wp2_with fail
            (with_reducible refine (V2.out _).mono ?_); rintro e w8 ⟨rfl, rfl⟩
            go_wp2
            refine bodyPost_ret (v := Frac3 0 0 3) (by simp [results, Tryz.results50, go_sem]) rfl ⟨rfl, ?_⟩; (repeat' (first | (with_reducible exact Below.refl _ _) | (with_reducible refine Below.alloc ?_ ?_ _) | (with_reducible refine Below.setCell ?_ ?_ _) | (with_reducible refine below_drewN ?_ _) | (simp; done) | omega | (simp; omega)))
          · replace V2 := Lib.hid fun w => (V2.out w).mono fun _ _ h => And.intro (h.1.trans (by rw [if_pos rfl])) h.2
            have hA : A = Frac3 0 0 3 := by simpa using HA.out
            subst hA
            clear HA
            go_wp2_with fail
            (with_reducible refine (I1.out _).mono ?_); rintro e w8 ⟨rfl, rfl⟩
            go_wp2_with fail
            (with_reducible refine (V1.out _).mono ?_); rintro e w8 ⟨rfl, rfl⟩
            go_wp2_with fail
            (with_reducible refine (V2.out _).mono ?_); rintro e w8 ⟨rfl, rfl⟩
            go_wp2
            refine bodyPost_ret (v := Frac3 0 0 3) (by simp [results, Tryz.results50, go_sem]) rfl ⟨rfl, ?_⟩; (repeat' (first | (with_reducible exact Below.refl _ _) | (with_reducible refine Below.alloc ?_ ?_ _) | (with_reducible refine Below.setCell ?_ ?_ _) | (with_reducible refine below_drewN ?_ _) | (simp; done) | omega | (simp; omega)))
        · replace V1 := Lib.hid fun w => (V1.out w).mono fun _ _ h => And.intro (h.1.trans (by rw [if_pos rfl])) h.2
          cases f2
          · replace V2 := Lib.hid fun w => (V2.out w).mono fun _ _ h => And.intro (h.1.trans (by rw [if_neg (by decide)])) h.2
            have hA : A = Frac3 0 0 3 := by simpa using HA.out
            subst hA
            clear HA
            go_wp2_with fail
            (with_reducible refine (I1.out _).mono ?_); rintro e w8 ⟨rfl, rfl⟩
            go_wp2_with fail
            (with_reducible refine (V1.out _).mono ?_); rintro e w8 ⟨rfl, rfl⟩
            go_wp2_with fail
            (with_reducible refine (V2.out _).mono ?_); rintro e w8 ⟨rfl, rfl⟩
            go_wp2
            refine bodyPost_ret (v := Frac3 0 0 3) (by simp [results, Tryz.results50, go_sem]) rfl ⟨rfl, ?_⟩; (repeat' (first | (with_reducible exact Below.refl _ _) | (with_reducible refine Below.alloc ?_ ?_ _) | (with_reducible refine Below.setCell ?_ ?_ _) | (with_reducible refine below_drewN ?_ _) | (simp; done) | omega | (simp; omega)))
          · replace V2 := Lib.hid fun w => (V2.out w).mono fun _ _ h => And.intro (h.1.trans (by rw [if_pos rfl])) h.2
            replace S1 := Lib.hid (S1.out rfl)
            replace S2 := Lib.hid (S2.out rfl)
            replace GC := Lib.hid (GC.out rfl rfl)
            have gv := HG.out
            cases vb
            · simp only [Bool.not_false] at gv
              have hA : A = Frac3 0 0 5 := by simpa using HA.out
              subst hA
              clear HA
              go_wp2_with fail
              (with_reducible refine (I1.out _).mono ?_); rintro e w8 ⟨rfl, rfl⟩
              go_wp2_with fail
              (with_reducible refine (V1.out _).mono ?_); rintro e w8 ⟨rfl, rfl⟩
              go_wp2_with fail
              (with_reducible refine (V2.out _).mono ?_); rintro e w8 ⟨rfl, rfl⟩
              go_wp2_with fail
              (with_reducible refine (S1.out _).mono ?_); rintro e w8 ⟨rfl, rfl⟩
              go_wp2_with fail
              (with_reducible refine (S2.out _).mono ?_); rintro e w8 ⟨rfl, rfl⟩
              go_wp2_with fail
              (with_reducible refine (GC.out _).mono ?_); rintro e w8 ⟨rfl, n9, rfl⟩
              go_wp2
              refine bodyPost_ret (v := Frac3 0 0 5) (by simp [results, Tryz.results50, go_sem]) rfl ⟨rfl, ?_⟩; (repeat' (first | (with_reducible exact Below.refl _ _) | (with_reducible refine Below.alloc ?_ ?_ _) | (with_reducible refine Below.setCell ?_ ?_ _) | (with_reducible refine below_drewN ?_ _) | (simp; done) | omega | (simp; omega)))
            · simp only [Bool.not_true] at gv
              have hA : A = Frac3 n d 0 := by simpa using HA.out
              subst hA
              clear HA
              go_wp2_with fail
              (with_reducible refine (I1.out _).mono ?_); rintro e w8 ⟨rfl, rfl⟩
              go_wp2_with fail
              (with_reducible refine (V1.out _).mono ?_); rintro e w8 ⟨rfl, rfl⟩
              go_wp2_with fail
              (with_reducible refine (V2.out _).mono ?_); rintro e w8 ⟨rfl, rfl⟩
              go_wp2_with fail
              (with_reducible refine (S1.out _).mono ?_); rintro e w8 ⟨rfl, rfl⟩
              go_wp2_with fail
              (with_reducible refine (S2.out _).mono ?_); rintro e w8 ⟨rfl, rfl⟩
              go_wp2_with fail
              (with_reducible refine (GC.out _).mono ?_); rintro e w8 ⟨rfl, n9, rfl⟩
              go_wp2
              refine bodyPost_ret (v := Frac3 n d 0) (by simp [results, Tryz.results50, go_sem]) rfl ⟨rfl, ?_⟩; (repeat' (first | (with_reducible exact Below.refl _ _) | (with_reducible refine Below.alloc ?_ ?_ _) | (with_reducible refine Below.setCell ?_ ?_ _) | (with_reducible refine below_drewN ?_ _) | (simp; done) | omega | (simp; omega)))
end Go.Proofs.YtikcinkbkakkmaaGreatDoor.Tx
