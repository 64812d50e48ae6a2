/- The reference: Format. -/
import Derived.Test.YtnmjenpeiafnkaaDoorT6
import Derived.Test.YtnmjenpeiafnkaaDoorRNew
import Derived.Deep.QuietTactic
import Derived.BigQuiet
namespace Go.Proofs.YtnmjenpeiafnkaaDoor.Tx
open Go.ChangeShapes Go.WideShapes Go.ChangeAt Go.RowKit
open Fr
set_option maxRecDepth 8000
set_option linter.unusedVariables false
set_option linter.unusedSimpArgs false

theorem dig_ext : ∀ r : Nat, r < 10 → (⟨#[48, 49, 50, 51, 52, 53, 54, 55, 56, 57]⟩ : ByteArray).extract r (r + 1) = ⟨#[UInt8.ofNat (48 + r)]⟩ := by decide
theorem cat2 (a b : List UInt8) : (⟨a.toArray⟩ : ByteArray) ++ (⟨b.toArray⟩ : ByteArray) = ⟨(a ++ b).toArray⟩ := by
  apply ByteArray.ext
  simp
theorem mk_list (t : ByteArray) : (⟨t.data.toList.toArray⟩ : ByteArray) = t := by
  apply ByteArray.ext
  simp
set_option maxHeartbeats 4000000 in
theorem r_plain (n : Nat) (hn : n ≤ 2147483648) (w : World) : Calls Tryd.prog 77 #[.int .u64 n] w fun e w' => e = .returned (.string ⟨(Lib.decDigits n).toArray⟩) ∧ w = w' := by
  have hlen := dec_len 9 n (by have : (10 : Nat) ^ (9 + 1) = 10000000000 := by decide
                               omega)
  obtain ⟨D, hD⟩ : ∃ D, Lib.decDigits n = D := ⟨_, rfl⟩
  rw [hD] at hlen ⊢
  have HD := Lib.hid hD
  have hcs : (⟨#[48, 49, 50, 51, 52, 53, 54, 55, 56, 57]⟩ : ByteArray).size = 10 := rfl
  clear hD
  go_enter Tryd.func77, Tryd.ntmps77
  go_wp2
  go_loop [0, 3] (fun a b => ∃ (q : Nat) (t : ByteArray), a = .int .u64 q ∧ b = .string t ∧ q ≤ 2147483648 ∧ t.size ≤ 10 ∧ Hid (Lib.decDigits q ++ t.data.toList = D)) (fun a _ => (intOf a).toNat)
  case atStart => exact ⟨n, ⟨#[]⟩, rfl, rfl, hn, by decide, Lib.hid (by rw [HD.out]; simp)⟩
  case round =>
    obtain ⟨q, t, rfl, rfl, hq, ht, HT⟩ := hrel
    have q0 : (0 : Int) ≤ q := by omega
    by_cases h : q < 10
    · have g : decide ((10 : Int) ≤ q) = false := by simp; omega
      have e1 := dig_ext q h
      have hE : (⟨#[UInt8.ofNat (48 + q)]⟩ : ByteArray) ++ t = ⟨D.toArray⟩ := by
        rw [← HT.out, dec_small h, ← cat2, mk_list]
      obtain ⟨c, hc⟩ : ∃ c, (⟨#[UInt8.ofNat (48 + q)]⟩ : ByteArray) = c := ⟨_, rfl⟩
      have hc1 : c.size = 1 := by rw [← hc]; rfl
      rw [hc] at e1 hE
      have j1 : (q : Int) + 1 ≤ 10 := by omega
      have j2 : ((q : Int) + 1).toNat = q + 1 := by omega
      have HE := Lib.hid hE
      clear hE hc h
      go_wp2
      go_ret
      exact ⟨by rw [HE.out]; rfl, rfl⟩
    · obtain ⟨r, hr⟩ : ∃ r : Nat, q % 10 = r := ⟨_, rfl⟩
      obtain ⟨k, hk⟩ : ∃ k : Nat, q / 10 = k := ⟨_, rfl⟩
      have hr10 : r < 10 := by omega
      have g : decide ((10 : Int) ≤ q) = true := by simp; omega
      have e1 := dig_ext r hr10
      have hN : Hid (Lib.decDigits k ++ ((⟨#[UInt8.ofNat (48 + r)]⟩ : ByteArray) ++ t).data.toList = D) := Lib.hid (by
        rw [← HT.out, dec_big h, hr, hk]
        simp)
      have hl : ((⟨#[UInt8.ofNat (48 + r)]⟩ : ByteArray) ++ t).size ≤ 10 := by
        rw [Lib.size_eq]
        have h1 := congrArg List.length hN.out
        have h2 := (dec_spec k).1
        rw [List.length_append] at h1
        have h3 := List.length_pos_iff.2 h2
        omega
      obtain ⟨c, hc⟩ : ∃ c, (⟨#[UInt8.ofNat (48 + r)]⟩ : ByteArray) = c := ⟨_, rfl⟩
      have hc1 : c.size = 1 := by rw [← hc]; rfl
      rw [hc] at e1 hN hl
      have j1 : (r : Int) + 1 ≤ 10 := by omega
      have j2 : ((r : Int) + 1).toNat = r + 1 := by omega
      have j3 : (q : Int) % 10 = r := by omega
      have j4 : (q : Int) / 10 = k := by omega
      have hkq : k < q := by omega
      have hk2 : k ≤ 2147483648 := by omega
      have r0 : (0 : Int) ≤ r := by omega
      clear hc h HT hr hk
      go_wp2
      go_round
      case rel => exact ⟨k, c ++ t, rfl, rfl, hk2, hl, hN⟩
      case measure => simp [intOf]; omega
theorem r_digits (n : Int) (n0 : -2147483648 ≤ n) (n1 : n ≤ 2147483648) (w : World) : Calls Tryd.prog 61 #[.int .i64 n] w fun e w' => e = .returned (.string ⟨(Lib.itoa n).toArray⟩) ∧ w = w' := by
  by_cases hn : n < 0
  · obtain ⟨k, rfl⟩ : ∃ k : Nat, n = -(k : Int) := ⟨n.natAbs, by omega⟩
    have P := Lib.hid fun w => r_plain k (by omega) w
    have S := Lib.hid fun w => rsize_neg (-(k : Int)) w hn (by omega)
    rw [show -(-(k : Int)) = k by omega] at S
    have e : (⟨(Lib.itoa (-(k : Int))).toArray⟩ : ByteArray) = (⟨#[45]⟩ : ByteArray) ++ (⟨(Lib.decDigits k).toArray⟩ : ByteArray) := by
      rw [show Lib.itoa (-(k : Int)) = [45] ++ Lib.decDigits k by unfold Lib.itoa; rw [if_pos hn, show (-(k : Int)).natAbs = k by omega]; rfl, ← cat2]
    rw [e]
    have hs : (⟨(Lib.decDigits k).toArray⟩ : ByteArray).size ≤ 10 := by
      rw [arr_size]
      exact dec_len 9 k (by have : (10 : Nat) ^ (9 + 1) = 10000000000 := by decide
                            omega)
    generalize (⟨(Lib.decDigits k).toArray⟩ : ByteArray) = d at *
    have h1 : (⟨#[45]⟩ : ByteArray).size = 1 := rfl
    have g : decide (-(k : Int) < 0) = true := by simp; omega
    clear e
    go_enter Tryd.func61, Tryd.ntmps61
    go_wp2_with (first | (go_at_call 42; (with_reducible refine (S.out _).mono ?_); rintro e w8 ⟨rfl, rfl⟩) | (go_at_call 77; (with_reducible refine (P.out _).mono ?_); rintro e w7 ⟨rfl, rfl⟩))
    go_ret
    exact ⟨rfl, rfl⟩
  · obtain ⟨k, rfl⟩ : ∃ k : Nat, n = (k : Int) := ⟨n.natAbs, by omega⟩
    have P := Lib.hid fun w => r_plain k (by omega) w
    have S := Lib.hid fun w => rsize_pos (k : Int) w (by omega) (by omega)
    rw [show Lib.itoa (k : Int) = Lib.decDigits k by unfold Lib.itoa; rw [if_neg hn]; rfl]
    generalize (⟨(Lib.decDigits k).toArray⟩ : ByteArray) = d at *
    have g : decide ((k : Int) < 0) = false := by simp
    clear hn
    go_enter Tryd.func61, Tryd.ntmps61
    go_wp2_with (first | (go_at_call 42; (with_reducible refine (S.out _).mono ?_); rintro e w8 ⟨rfl, rfl⟩) | (go_at_call 77; (with_reducible refine (P.out _).mono ?_); rintro e w7 ⟨rfl, rfl⟩))
    go_ret
    exact ⟨rfl, rfl⟩
theorem cat3' (a b : List UInt8) : ((⟨a.toArray⟩ : ByteArray) ++ (⟨#[47]⟩ : ByteArray)) ++ (⟨b.toArray⟩ : ByteArray) = ⟨(a ++ 47 :: b).toArray⟩ := by
  apply ByteArray.ext
  simp
set_option maxHeartbeats 4000000 in
theorem r_fmt (n d : Int) (w : World) : Calls Tryd.prog 38 #[.agg #[.int .i64 n, .int .i64 d]] w (Ret (.string ⟨(fmv n d).toArray⟩) w) := by
  have VA := Lib.hid fun w => rvalid_any n d w
  cases hv : vld n d
  · rw [show fmv n d = [] by unfold fmv; rw [if_pos hv]]
    rw [hv] at VA
    clear hv
    go_enter Tryd.func38, Tryd.ntmps38
    go_wp2_with (first | (go_at_call 15; (with_reducible refine (VA.out _).mono ?_); rintro e w1 ⟨rfl, hb1⟩; have hc1 := (bcell hb1).1; have hf1 := (bcell hb1).2; have z1_0 : w.heap.size < w1.heap.size := (by have hzz := hb1.size; (try simp at hzz); omega); have K1 : Below w.heap.size w w1 := Below.trans (b := _) (by (repeat' (first | (with_reducible exact Below.refl _ _) | (with_reducible refine Below.alloc ?_ ?_ _) | (with_reducible refine Below.setCell ?_ ?_ _) | (with_reducible refine below_drewN ?_ _) | (simp; done) | omega | (simp; omega)))) (hb1.mono (by have hzz := hb1.size; (try simp at hzz); first | omega | (simp; done) | (simp; omega)))))
    go_ret
    exact ⟨rfl, K1⟩
  rw [hv] at VA
  obtain ⟨d0, d1, n0, n1, _⟩ := vld_parts hv
  have F1 := Lib.hid fun w => r_digits n (by omega) (by omega) w
  have F2 := Lib.hid fun w => r_digits d (by omega) (by omega) w
  have HF : Hid (∀ l, (if d = 1 then Lib.itoa n else Lib.itoa n ++ 47 :: Lib.itoa d) = l → fmv n d = l) := Lib.hid fun l hl => by
    unfold fmv; rw [if_neg (by rw [hv]; decide)]; exact hl
  clear hv
  by_cases h1 : d = 1
  · rw [HF.out _ (if_pos h1)]
    have g1 : (d == 1) = true := by simpa using h1
    clear HF h1 F2
    generalize Lib.itoa n = a at *
    go_enter Tryd.func38, Tryd.ntmps38
    go_wp2_with (first | (go_at_call 15; (with_reducible refine (VA.out _).mono ?_); rintro e w1 ⟨rfl, hb1⟩; have hc1 := (bcell hb1).1; have hf1 := (bcell hb1).2; have z1_0 : w.heap.size < w1.heap.size := (by have hzz := hb1.size; (try simp at hzz); omega); have K1 : Below w.heap.size w w1 := Below.trans (b := _) (by (repeat' (first | (with_reducible exact Below.refl _ _) | (with_reducible refine Below.alloc ?_ ?_ _) | (with_reducible refine Below.setCell ?_ ?_ _) | (with_reducible refine below_drewN ?_ _) | (simp; done) | omega | (simp; omega)))) (hb1.mono (by have hzz := hb1.size; (try simp at hzz); first | omega | (simp; done) | (simp; omega)))) | (go_at_call 61; (with_reducible refine (F1.out _).mono ?_); rintro e w7 ⟨rfl, rfl⟩))
    go_ret
    exact ⟨rfl, K1⟩
  · rw [HF.out _ (if_neg h1), ← cat3']
    have g1 : (d == 1) = false := by simpa using h1
    clear HF h1
    have ha : (⟨(Lib.itoa n).toArray⟩ : ByteArray).size ≤ 11 := by rw [arr_size]; exact itoa_len n0 n1
    have hb : (⟨(Lib.itoa d).toArray⟩ : ByteArray).size ≤ 11 := by rw [arr_size]; exact itoa_len (by omega) d1
    generalize (⟨(Lib.itoa n).toArray⟩ : ByteArray) = a at *
    generalize (⟨(Lib.itoa d).toArray⟩ : ByteArray) = b at *
    replace F1 := Lib.hid fun w => (F1.out w).mono fun _ _ h => And.intro h.1 h.2.symm
    replace F2 := Lib.hid fun w => (F2.out w).mono fun _ _ h => And.intro h.1 h.2.symm
    have h1 : (⟨#[47]⟩ : ByteArray).size = 1 := rfl
    have h2 : (a ++ (⟨#[47]⟩ : ByteArray)).size = a.size + 1 := by rw [ByteArray.size_append, h1]
    have hb9 : (a ++ (⟨#[47]⟩ : ByteArray)).size ≤ 12 := by omega
    clear h2
    go_enter Tryd.func38, Tryd.ntmps38
    go_wp2_with fail
    (with_reducible refine (VA.out _).mono ?_); rintro e w1 ⟨rfl, hb1⟩; have hc1 := (bcell hb1).1; have hf1 := (bcell hb1).2; have z1_0 : w.heap.size < w1.heap.size := (by have hzz := hb1.size; (try simp at hzz); omega); have K1 : Below w.heap.size w w1 := Below.trans (b := _) (by (repeat' (first | (with_reducible exact Below.refl _ _) | (with_reducible refine Below.alloc ?_ ?_ _) | (with_reducible refine Below.setCell ?_ ?_ _) | (with_reducible refine below_drewN ?_ _) | (simp; done) | omega | (simp; omega)))) (hb1.mono (by have hzz := hb1.size; (try simp at hzz); first | omega | (simp; done) | (simp; omega)))
    go_wp2_with fail
    go_quiet ((first | (go_at_call 61; with_reducible exact Calls.quiet_of_same (F1.out _)) | (go_at_call 61; with_reducible exact Calls.quiet_of_same (F2.out _))))
    go_wp2
    go_ret
    exact ⟨rfl, (by (repeat' (first | (with_reducible exact Below.refl _ _) | (with_reducible exact K1) | (with_reducible refine Below.alloc ?_ ?_ _) | (with_reducible refine Below.setCell ?_ ?_ _) | (with_reducible refine below_drewN ?_ _) | (simp; done) | omega | (simp; omega))))⟩
end Go.Proofs.YtnmjenpeiafnkaaDoor.Tx
