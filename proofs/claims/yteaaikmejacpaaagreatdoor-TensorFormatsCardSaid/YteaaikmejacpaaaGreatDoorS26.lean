/- Format of the reference, Same; the statement on them. -/
import Derived.Test.YteaaikmejacpaaaGreatDoorS24
import Derived.BigQuiet
import Derived.Deep.QuietTactic
import Derived.Lib.Bytealg
import Derived.Lib.ItoaNum
import Derived.Lib.ParseIntB
import Derived.Lib.Strings
/- New and Valid of the reference. -/
namespace Go.Proofs.YteaaikmejacpaaaGreatDoor.Fr
open Go.ChangeShapes Go.WideShapes Go.ChangeAt Go.RowKit
set_option linter.unusedVariables false
set_option linter.unusedSimpArgs false
set_option maxHeartbeats 1000000 in
theorem rfgcd (x y : Int) (w : World) (x0 : 0 <= x) (x1 : x <= 9223372036854775808) (y0 : 0 <= y) (y1 : y <= 9223372036854775808) :
  Calls Tryz.prog 158 #[.int .u64 x, .int .u64 y] w (Val1 .u64 (Int.gcd x y) w) := by
 go_enter Tryz.func158, Tryz.ntmps158
 go_wp2
 go_loopw [0, 1] (fun a b wr => ∃ p q : Int, a = .int .u64 p /\ b = .int .u64 q /\ 0 <= p /\ p <= 9223372036854775808 /\ 0 <= q /\ q <= 9223372036854775808 /\ Int.gcd p q = Int.gcd x y /\ ∃ n, wr = w.drewN n) (fun _ b _ => (intOf b).toNat)
 case atStart => exact ⟨x, y, rfl, rfl, x0, x1, y0, y1, rfl, 0, rfl⟩
 case round =>
  obtain ⟨p, q, rfl, rfl, p0, p1, q0, q1, hg, n, rfl⟩ := hrel
  have HG := Lib.hid hg
  clear hg
  by_cases hq : q = 0
  ·subst hq
   go_wp2
   go_ret
   exact val1_end _ (by rw [<- HG.out, gcd_done _ p0])
  ·have hq1 : (q != 0) = true := by simpa using hq
   have hq2 : (q == 0) = false := by simpa using hq
   have hq3 : 0 < q := by omega
   have hm := Int.emod_nonneg p hq
   have hl := Int.emod_lt_of_pos p hq3
   clear hq
   go_wp2
   go_quiet (fail)
   go_wp2
   go_roundw
   case rel => exact ⟨q, p % q, rfl, rfl, by omega, by omega, by omega, by omega, by rw [gcd_step _ _ p0 hq3, HG.out], n + nq, by rw [World.drewN_drewN]⟩
   case measure => simp [intOf]; omega
theorem rsize_neg (n : Int) (w : World) (h : n < 0) (h' : -9223372036854775808 <= n) :
  Calls Tryz.prog 140 #[.int .i64 n] w fun e w' => e = .returned (.int .u64 (-n)) /\ w = w' := by
 have e : ∀ a b : Int, a = b -> Ending.returned (.int .u64 a) = .returned (.int .u64 b) := fun a b h => by rw [h]
 go_enter Tryz.func140, Tryz.ntmps140
 go_wp2
 go_ret
 exact ⟨e _ _ (by omega), rfl⟩
theorem rsize_pos (n : Int) (w : World) (h : 0 <= n) (h' : n <= 9223372036854775807) :
  Calls Tryz.prog 140 #[.int .i64 n] w fun e w' => e = .returned (.int .u64 n) /\ w = w' := by
 go_enter Tryz.func140, Tryz.ntmps140
 go_wp2
 go_ret
 exact ⟨rfl, rfl⟩
set_option maxHeartbeats 4000000 in
theorem rmade_any (neg : Bool) (n d : Int) (w : World) (n0 : 0 <= n) (n1 : n <= 9223372036854775808) (d0 : 1 <= d) (d1 : d <= 9223372036854775808) :
  Calls Tryz.prog 139 #[.bool neg, .int .u64 n, .int .u64 d] w (Ret (Frac3 (lowN neg n d) (lowD n d) (lowE n d)) w) := by
 obtain ⟨g0, g1, q0, q1, r0, r1⟩ := gcd_facts n d n0 (by omega)
 obtain ⟨b, hb⟩ : ∃ b, decide (2147483647 < n / (Int.gcd n d : Int) \/ 2147483647 < d / (Int.gcd n d : Int)) = b := ⟨_, rfl⟩
 have HN : lowN neg n d = if b then 0 else if neg then -(n / (Int.gcd n d : Int)) else n / (Int.gcd n d : Int) := by unfold lowN; subst hb; simp
 have HD : lowD n d = if b then 0 else d / (Int.gcd n d : Int) := by unfold lowD; subst hb; simp
 have HE : lowE n d = if b then 3 else 0 := by unfold lowE; subst hb; simp
 rw [HN, HD, HE]
 clear HN HD HE
 obtain ⟨q, hq⟩ : ∃ q, n / (Int.gcd n d : Int) = q := ⟨_, rfl⟩
 obtain ⟨r, hr⟩ : ∃ r, d / (Int.gcd n d : Int) = r := ⟨_, rfl⟩
 rw [hq] at q0 q1 hb ⊢
 rw [hr] at r0 r1 hb ⊢
 have gz : ((Int.gcd n d : Int) == 0) = false := by simp; omega
 obtain ⟨x, y, hx, hy, hxy⟩ : ∃ x y, decide (2147483647 < q) = x /\ decide (2147483647 < r) = y /\ (x || y) = b := ⟨_, _, rfl, rfl, by rw [<- hb]; simp⟩
 clear hb
 have hx2 : x = false -> q <= 2147483647 := fun h => by rw [h] at hx; simpa using hx
 have hy2 : y = false -> r <= 2147483647 := fun h => by rw [h] at hy; simpa using hy
 cases x <;> cases y <;> simp only [Bool.or_false, Bool.or_true] at hxy <;> subst hxy
 all_goals cases neg
 all_goals
  try simp only [Bool.false_eq_true, ↓reduceIte]
  try have hx3 := hx2 rfl
  try have hy3 := hy2 rfl
  clear hx2 hy2
  go_enter Tryz.func139, Tryz.ntmps139
  go_wp2_with (go_at_call 158; refine (rfgcd _ _ _ (by omega) (by omega) (by omega) (by omega)).mono ?_; rintro e w1 ⟨rfl, k, rfl⟩)
  go_returns
  refine ⟨rfl, ?_⟩
  repeat' (first | (with_reducible exact Below.refl _ _) | (with_reducible refine below_drewN ?_ _) | (with_reducible refine Below.drew ?_) | (with_reducible refine Below.alloc ?_ ?_ _) | (with_reducible refine Below.setCell ?_ ?_ _) | (with_reducible assumption) | (simp; done) | (simp; omega) | omega)
set_option maxHeartbeats 4000000 in
theorem rnew_any (n d : Int) (w : World) (n0 : -9223372036854775808 <= n) (n1 : n <= 9223372036854775807) (d0 : -9223372036854775808 <= d) (d1 : d <= 9223372036854775807) :
  Calls Tryz.prog 122 #[.int .i64 n, .int .i64 d] w (Ret (Frac3 (newN n d) (newD n d) (newE n d)) w) := by
 by_cases hd : d = 0
 ·subst hd
  have e1 : newN n 0 = 0 := rfl
  have e2 : newD n 0 = 0 := rfl
  have e3 : newE n 0 = 4 := rfl
  rw [e1, e2, e3]
  clear e1 e2 e3
  go_enter Tryz.func122, Tryz.ntmps122
  go_wp2
  go_returns
  refine ⟨rfl, ?_⟩
  repeat' (first | (with_reducible exact Below.refl _ _) | (with_reducible refine below_drewN ?_ _) | (with_reducible refine Below.drew ?_) | (with_reducible refine Below.alloc ?_ ?_ _) | (with_reducible refine Below.setCell ?_ ?_ _) | (with_reducible assumption) | (simp; done) | (simp; omega) | omega)
 ·have hz : (d == 0) = false := by simpa using hd
  obtain ⟨x, y, hx, hy⟩ : ∃ x y, decide (n < 0) = x /\ decide (d < 0) = y := ⟨_, _, rfl, rfl⟩
  obtain ⟨m, hm, m0, m1⟩ : ∃ m, (if n < 0 then -n else n) = m /\ 0 <= m /\ m <= 9223372036854775808 := ⟨_, rfl, by split <;> omega, by split <;> omega⟩
  obtain ⟨c, hc, c0, c1⟩ : ∃ c, (if d < 0 then -d else d) = c /\ 1 <= c /\ c <= 9223372036854775808 := ⟨_, rfl, by split <;> omega, by split <;> omega⟩
  have e1 : newN n d = lowN (x != y) m c := by unfold newN; rw [if_neg hd, hx, hy, hm, hc]
  have e2 : newD n d = lowD m c := by unfold newD; rw [if_neg hd, hm, hc]
  have e3 : newE n d = lowE m c := by unfold newE; rw [if_neg hd, hm, hc]
  rw [e1, e2, e3]
  have hx1 : x = true -> n < 0 /\ m = -n := fun h => by
   have h1 : n < 0 := by rw [h] at hx; simpa using hx
   exact ⟨h1, by rw [if_pos h1] at hm; exact hm.symm⟩
  have hx2 : x = false -> 0 <= n /\ m = n := fun h => by
   have h1 : 0 <= n := by rw [h] at hx; simpa using hx
   exact ⟨h1, by rw [if_neg (by omega)] at hm; exact hm.symm⟩
  have hy1 : y = true -> d < 0 /\ c = -d := fun h => by
   have h1 : d < 0 := by rw [h] at hy; simpa using hy
   exact ⟨h1, by rw [if_pos h1] at hc; exact hc.symm⟩
  have hy2 : y = false -> 0 < d /\ c = d := fun h => by
   have h1 : 0 <= d := by rw [h] at hy; simpa using hy
   exact ⟨by omega, by rw [if_neg (by omega)] at hc; exact hc.symm⟩
  have LW := Lib.hid (fun b (w : World) => rmade_any b m c w m0 m1 c0 c1)
  clear e1 e2 e3 hm hc
  cases x <;> cases y
  all_goals
   (first | obtain ⟨h1, rfl⟩ := hx1 rfl | obtain ⟨h1, rfl⟩ := hx2 rfl)
   (first | obtain ⟨h2, rfl⟩ := hy1 rfl | obtain ⟨h2, rfl⟩ := hy2 rfl)
   clear hx1 hx2 hy1 hy2
   go_enter Tryz.func122, Tryz.ntmps122
   go_wp2_with (first | (go_at_call 140; refine (rsize_pos _ _ (by omega) (by omega)).mono ?_; rintro e w1 ⟨rfl, rfl⟩) | (go_at_call 140; refine (rsize_neg _ _ (by omega) (by omega)).mono ?_; rintro e w1 ⟨rfl, rfl⟩) | (go_at_call 139; refine (LW.out _ _).mono ?_; rintro e w1 ⟨rfl, hb⟩; have hc := (bcell hb).1; have hf := (bcell hb).2))
   refine bodyPost_ret (v := Frac3 _ _ _) (by simp [results, Tryz.results122, go_sem, hc]) rfl ⟨rfl, ?_⟩
   refine Below.setCell (Below.setCell ?_ (by simp) _) (by simp) _
   exact ((Below.refl _ _).alloc (Nat.le_refl _) _).trans (hb.mono (by simp))
theorem rvalid_any (n d : Int) (w : World) : Calls Tryz.prog 121 #[.agg #[.int .i64 n, .int .i64 d]] w (Ret (.bool (vld n d)) w) := by
 go_enter Tryz.func121, Tryz.ntmps121
 go_wp2_with (go_at_call 54; refine (bval_any _ _ _).mono ?_; rintro e w1 ⟨rfl, hb⟩)
 go_ret
 exact ⟨rfl, ((Below.refl _ _).alloc (Nat.le_refl _) _).trans (hb.mono (by simp))⟩
end Go.Proofs.YteaaikmejacpaaaGreatDoor.Fr

/- The texts of fractions: mathematics. -/
namespace Go.Proofs.YteaaikmejacpaaaGreatDoor.Tx
open Go.ChangeShapes Go.WideShapes Go.ChangeAt Go.RowKit
open Fr Fx
set_option maxRecDepth 8000
set_option linter.unusedVariables false
set_option linter.unusedSimpArgs false
set_option maxRecDepth 8000
def isD (c : UInt8) : Bool := decide (48 <= c.toNat /\ c.toNat <= 57)





theorem nv_append (a : Nat) (l r : List UInt8) : nv10 a (l ++ r) = nv10 (nv10 a l) r := by
 induction l generalizing a with
 | nil => rfl
 | cons c l ih => exact ih _
theorem nv_snoc (a : Nat) (l : List UInt8) (c : UInt8) : nv10 a (l ++ [c]) = nv10 a l * 10 + (c.toNat - 48) := by rw [nv_append]; rfl




theorem dig_nat {k : Nat} (h : k < 10) : (UInt8.ofNat (48 + k)).toNat = 48 + k := by
 rw [UInt8.toNat_ofNat']; omega
theorem dec_spec (k : Nat) : Lib.decDigits k ≠ [] /\ (Lib.decDigits k).all isD = true /\ nv10 0 (Lib.decDigits k) = k /\ ((Lib.decDigits k).headD 0 = 48 -> k = 0) := by
 induction k using Nat.strongRecOn with
 | _ k ih =>
  by_cases h : k < 10
  ·rw [dec_small h]
   have e := dig_nat h
   refine ⟨by simp, ?_, ?_, fun e2 => ?_⟩
   ·simp only [List.all_cons, List.all_nil, Bool.and_true]; unfold isD; rw [e]; exact decide_eq_true (by omega)
   ·show 0 * 10 + ((UInt8.ofNat (48 + k)).toNat - 48) = k; rw [e]; omega
   ·have : (UInt8.ofNat (48 + k)).toNat = (48 : UInt8).toNat := by rw [show UInt8.ofNat (48 + k) = 48 from e2]
    rw [e] at this
    have h48 : (48 : UInt8).toNat = 48 := rfl
    omega
  ·obtain ⟨h1, h2, h3, h4⟩ := ih (k / 10) (by omega)
   rw [dec_big h]
   have e := dig_nat (Nat.mod_lt k (by decide : 0 < 10))
   refine ⟨by simp, ?_, ?_, fun e2 => ?_⟩
   ·rw [List.all_append, h2]; simp only [List.all_cons, List.all_nil, Bool.and_true, Bool.true_and]; unfold isD; rw [e]; exact decide_eq_true (by omega)
   ·rw [nv_snoc, h3, e]; omega
   ·exfalso
    have : k / 10 = 0 := h4 (by
     cases hd : Lib.decDigits (k / 10) with
     | nil => exact absurd hd h1
     | cons c r => rw [hd] at e2; exact e2)
    omega

end Go.Proofs.YteaaikmejacpaaaGreatDoor.Tx

/- The reference: Format. -/
namespace Go.Proofs.YteaaikmejacpaaaGreatDoor.Tx
open Go.ChangeShapes Go.WideShapes Go.ChangeAt Go.RowKit
open Fr Fx
set_option maxRecDepth 8000
set_option linter.unusedVariables false
set_option linter.unusedSimpArgs false
set_option maxRecDepth 8000
theorem dig_ext : ∀ r : Nat, r < 10 -> (⟨#[48, 49, 50, 51, 52, 53, 54, 55, 56, 57]⟩ : ByteArray).extract r (r + 1) = ⟨#[UInt8.ofNat (48 + r)]⟩ := by decide
theorem cat2 (a b : List UInt8) : (⟨a.toArray⟩ : ByteArray) ++ (⟨b.toArray⟩ : ByteArray) = ⟨(a ++ b).toArray⟩ := by
 apply ByteArray.ext
 simp
theorem mk_list (t : ByteArray) : (⟨t.data.toList.toArray⟩ : ByteArray) = t := by
 apply ByteArray.ext
 simp
set_option maxHeartbeats 4000000 in
theorem r_plain (n : Nat) (hn : n <= 2147483648) (w : World) : Calls Tryz.prog 171 #[.int .u64 n] w fun e w' => e = .returned (.string ⟨(Lib.decDigits n).toArray⟩) /\ w = w' := by
  have hlen := dec_len 9 n (by have : (10 : Nat) ^ (9 + 1) = 10000000000 := (by decide); omega)
  obtain ⟨D, hD⟩ : ∃ D, Lib.decDigits n = D := ⟨_, rfl⟩
  rw [hD] at hlen ⊢
  have HD := Lib.hid hD
  have hcs : (⟨#[48, 49, 50, 51, 52, 53, 54, 55, 56, 57]⟩ : ByteArray).size = 10 := rfl
  clear hD
  go_enter Tryz.func171, Tryz.ntmps171
  go_wp2
  go_loop [0, 3] (fun a b => ∃ (q : Nat) (t : ByteArray), a = .int .u64 q /\ b = .string t /\ q <= 2147483648 /\ t.size <= 10 /\ Hid (Lib.decDigits q ++ t.data.toList = D)) (fun a _ => (intOf a).toNat)
  case atStart => exact ⟨n, ⟨#[]⟩, rfl, rfl, hn, by decide, Lib.hid (by rw [HD.out]; simp)⟩
  case round =>
    obtain ⟨q, t, rfl, rfl, hq, ht, HT⟩ := hrel
    have q0 : (0 : Int) <= q := by omega
    by_cases h : q < 10
    · have g : decide ((10 : Int) <= q) = false := by simp; omega
      have e1 := dig_ext q h
      have hE : (⟨#[UInt8.ofNat (48 + q)]⟩ : ByteArray) ++ t = ⟨D.toArray⟩ := by
        rw [<- HT.out, dec_small h, <- cat2, mk_list]
      obtain ⟨c, hc⟩ : ∃ c, (⟨#[UInt8.ofNat (48 + q)]⟩ : ByteArray) = c := ⟨_, rfl⟩
      have hc1 : c.size = 1 := by rw [<- hc]; rfl
      rw [hc] at e1 hE
      have j1 : (q : Int) + 1 <= 10 := by omega
      have j2 : ((q : Int) + 1).toNat = q + 1 := by omega
      have HE := Lib.hid hE
      clear hE hc h
      go_wp2
      go_ret
      exact ⟨by rw [HE.out]; rfl, rfl⟩
    · obtain ⟨r, hr⟩ : ∃ r : Nat, q % 10 = r := ⟨_, rfl⟩
      obtain ⟨k, hk⟩ : ∃ k : Nat, q / 10 = k := ⟨_, rfl⟩
      have hr10 : r < 10 := by omega
      have g : decide ((10 : Int) <= q) = true := by simp; omega
      have e1 := dig_ext r hr10
      have hN : Hid (Lib.decDigits k ++ ((⟨#[UInt8.ofNat (48 + r)]⟩ : ByteArray) ++ t).data.toList = D) := Lib.hid (by
        rw [<- HT.out, dec_big h, hr, hk]
        simp)
      have hl : ((⟨#[UInt8.ofNat (48 + r)]⟩ : ByteArray) ++ t).size <= 10 := by
        rw [Lib.size_eq]
        have h1 := congrArg List.length hN.out
        have h2 := (dec_spec k).1
        rw [List.length_append] at h1
        have h3 := List.length_pos_iff.2 h2
        omega
      obtain ⟨c, hc⟩ : ∃ c, (⟨#[UInt8.ofNat (48 + r)]⟩ : ByteArray) = c := ⟨_, rfl⟩
      have hc1 : c.size = 1 := by rw [<- hc]; rfl
      rw [hc] at e1 hN hl
      have j1 : (r : Int) + 1 <= 10 := by omega
      have j2 : ((r : Int) + 1).toNat = r + 1 := by omega
      have j3 : (q : Int) % 10 = r := by omega
      have j4 : (q : Int) / 10 = k := by omega
      have hkq : k < q := by omega
      have hk2 : k <= 2147483648 := by omega
      have r0 : (0 : Int) <= r := by omega
      clear hc h HT hr hk
      go_wp2
      go_round
      case rel => exact ⟨k, c ++ t, rfl, rfl, hk2, hl, hN⟩
      case measure => simp [intOf]; omega
theorem r_digits (n : Int) (n0 : -2147483648 <= n) (n1 : n <= 2147483648) (w : World) : Calls Tryz.prog 157 #[.int .i64 n] w fun e w' => e = .returned (.string ⟨(Lib.itoa n).toArray⟩) /\ w = w' := by
 by_cases hn : n < 0
 ·obtain ⟨k, rfl⟩ : ∃ k : Nat, n = -(k : Int) := ⟨n.natAbs, by omega⟩
  have P := Lib.hid fun w => r_plain k (by omega) w
  have S := Lib.hid fun w => rsize_neg (-(k : Int)) w hn (by omega)
  rw [show -(-(k : Int)) = k by omega] at S
  have e : (⟨(Lib.itoa (-(k : Int))).toArray⟩ : ByteArray) = (⟨#[45]⟩ : ByteArray) ++ (⟨(Lib.decDigits k).toArray⟩ : ByteArray) := by
   rw [show Lib.itoa (-(k : Int)) = [45] ++ Lib.decDigits k by unfold Lib.itoa; rw [if_pos hn, show (-(k : Int)).natAbs = k by omega]; rfl, <- cat2]
  rw [e]
  have hs : (⟨(Lib.decDigits k).toArray⟩ : ByteArray).size <= 10 := by
   rw [arr_size]
   exact dec_len 9 k (by have : (10 : Nat) ^ (9 + 1) = 10000000000 := (by decide); omega)
  generalize (⟨(Lib.decDigits k).toArray⟩ : ByteArray) = d at *
  have h1 : (⟨#[45]⟩ : ByteArray).size = 1 := rfl
  have g : decide (-(k : Int) < 0) = true := by simp; omega
  clear e
  go_enter Tryz.func157, Tryz.ntmps157
  go_wp2_with (first | (go_at_call 140; (with_reducible refine (S.out _).mono ?_); rintro e w8 ⟨rfl, rfl⟩) | (go_at_call 171; (with_reducible refine (P.out _).mono ?_); rintro e w7 ⟨rfl, rfl⟩))
  go_ret
  exact ⟨rfl, rfl⟩
 ·obtain ⟨k, rfl⟩ : ∃ k : Nat, n = (k : Int) := ⟨n.natAbs, by omega⟩
  have P := Lib.hid fun w => r_plain k (by omega) w
  have S := Lib.hid fun w => rsize_pos (k : Int) w (by omega) (by omega)
  rw [show Lib.itoa (k : Int) = Lib.decDigits k by unfold Lib.itoa; rw [if_neg hn]; rfl]
  generalize (⟨(Lib.decDigits k).toArray⟩ : ByteArray) = d at *
  have g : decide ((k : Int) < 0) = false := by simp
  clear hn
  go_enter Tryz.func157, Tryz.ntmps157
  go_wp2_with (first | (go_at_call 140; (with_reducible refine (S.out _).mono ?_); rintro e w8 ⟨rfl, rfl⟩) | (go_at_call 171; (with_reducible refine (P.out _).mono ?_); rintro e w7 ⟨rfl, rfl⟩))
  go_ret
  exact ⟨rfl, rfl⟩
theorem cat3' (a b : List UInt8) : ((⟨a.toArray⟩ : ByteArray) ++ (⟨#[47]⟩ : ByteArray)) ++ (⟨b.toArray⟩ : ByteArray) = ⟨(a ++ 47 :: b).toArray⟩ := by
 apply ByteArray.ext
 simp
set_option maxHeartbeats 4000000 in
theorem r_fmt (n d : Int) (w : World) : Calls Tryz.prog 135 #[.agg #[.int .i64 n, .int .i64 d]] w (Ret (.string ⟨(fmv n d).toArray⟩) w) := by
 have VA := Lib.hid fun w => rvalid_any n d w
 cases hv : vld n d
 ·rw [show fmv n d = [] by unfold fmv; rw [if_pos hv]]
  rw [hv] at VA
  clear hv
  go_enter Tryz.func135, Tryz.ntmps135
  go_wp2_with (first | (go_at_call 121; (with_reducible refine (VA.out _).mono ?_); rintro e w1 ⟨rfl, hb1⟩; have hc1 := (bcell hb1).1; have hf1 := (bcell hb1).2; have z1_0 : w.heap.size < w1.heap.size := (by have hzz := hb1.size; (try simp at hzz); omega); have K1 : Below w.heap.size w w1 := Below.trans (b := _) (by (repeat' (first | (with_reducible exact Below.refl _ _) | (with_reducible refine Below.alloc ?_ ?_ _) | (with_reducible refine Below.setCell ?_ ?_ _) | (with_reducible refine below_drewN ?_ _) | (simp; done) | omega | (simp; omega)))) (hb1.mono (by have hzz := hb1.size; (try simp at hzz); first | omega | (simp; done) | (simp; omega)))))
  go_ret
  exact ⟨rfl, K1⟩
 rw [hv] at VA
 obtain ⟨d0, d1, n0, n1, _⟩ := vld_parts hv
 have F1 := Lib.hid fun w => r_digits n (by omega) (by omega) w
 have F2 := Lib.hid fun w => r_digits d (by omega) (by omega) w
 have HF : Hid (∀ l, (if d = 1 then Lib.itoa n else Lib.itoa n ++ 47 :: Lib.itoa d) = l -> fmv n d = l) := Lib.hid fun l hl => by
  unfold fmv; rw [if_neg (by rw [hv]; decide)]; exact hl
 clear hv
 by_cases h1 : d = 1
 ·rw [HF.out _ (if_pos h1)]
  have g1 : (d == 1) = true := by simpa using h1
  clear HF h1 F2
  generalize Lib.itoa n = a at *
  go_enter Tryz.func135, Tryz.ntmps135
  go_wp2_with (first | (go_at_call 121; (with_reducible refine (VA.out _).mono ?_); rintro e w1 ⟨rfl, hb1⟩; have hc1 := (bcell hb1).1; have hf1 := (bcell hb1).2; have z1_0 : w.heap.size < w1.heap.size := (by have hzz := hb1.size; (try simp at hzz); omega); have K1 : Below w.heap.size w w1 := Below.trans (b := _) (by (repeat' (first | (with_reducible exact Below.refl _ _) | (with_reducible refine Below.alloc ?_ ?_ _) | (with_reducible refine Below.setCell ?_ ?_ _) | (with_reducible refine below_drewN ?_ _) | (simp; done) | omega | (simp; omega)))) (hb1.mono (by have hzz := hb1.size; (try simp at hzz); first | omega | (simp; done) | (simp; omega)))) | (go_at_call 157; (with_reducible refine (F1.out _).mono ?_); rintro e w7 ⟨rfl, rfl⟩))
  go_ret
  exact ⟨rfl, K1⟩
 ·rw [HF.out _ (if_neg h1), <- cat3']
  have g1 : (d == 1) = false := by simpa using h1
  clear HF h1
  have ha : (⟨(Lib.itoa n).toArray⟩ : ByteArray).size <= 11 := by rw [arr_size]; exact itoa_len n0 n1
  have hb : (⟨(Lib.itoa d).toArray⟩ : ByteArray).size <= 11 := by rw [arr_size]; exact itoa_len (by omega) d1
  generalize (⟨(Lib.itoa n).toArray⟩ : ByteArray) = a at *
  generalize (⟨(Lib.itoa d).toArray⟩ : ByteArray) = b at *
  replace F1 := Lib.hid fun w => (F1.out w).mono fun _ _ h => And.intro h.1 h.2.symm
  replace F2 := Lib.hid fun w => (F2.out w).mono fun _ _ h => And.intro h.1 h.2.symm
  have h1 : (⟨#[47]⟩ : ByteArray).size = 1 := rfl
  have h2 : (a ++ (⟨#[47]⟩ : ByteArray)).size = a.size + 1 := by rw [ByteArray.size_append, h1]
  have hb9 : (a ++ (⟨#[47]⟩ : ByteArray)).size <= 12 := by omega
  clear h2
  go_enter Tryz.func135, Tryz.ntmps135
  go_wp2_with fail
  (with_reducible refine (VA.out _).mono ?_); rintro e w1 ⟨rfl, hb1⟩; have hc1 := (bcell hb1).1; have hf1 := (bcell hb1).2; have z1_0 : w.heap.size < w1.heap.size := (by have hzz := hb1.size; (try simp at hzz); omega); have K1 : Below w.heap.size w w1 := Below.trans (b := _) (by (repeat' (first | (with_reducible exact Below.refl _ _) | (with_reducible refine Below.alloc ?_ ?_ _) | (with_reducible refine Below.setCell ?_ ?_ _) | (with_reducible refine below_drewN ?_ _) | (simp; done) | omega | (simp; omega)))) (hb1.mono (by have hzz := hb1.size; (try simp at hzz); first | omega | (simp; done) | (simp; omega)))
  go_wp2_with fail
  go_quiet ((first | (go_at_call 157; with_reducible exact Calls.quiet_of_same (F1.out _)) | (go_at_call 157; with_reducible exact Calls.quiet_of_same (F2.out _))))
  go_wp2
  go_ret
  exact ⟨rfl, (by (repeat' (first | (with_reducible exact Below.refl _ _) | (with_reducible exact K1) | (with_reducible refine Below.alloc ?_ ?_ _) | (with_reducible refine Below.setCell ?_ ?_ _) | (with_reducible refine below_drewN ?_ _) | (simp; done) | omega | (simp; omega))))⟩
end Go.Proofs.YteaaikmejacpaaaGreatDoor.Tx

/- Types and numbers of the reference. -/
namespace Go.Proofs.YteaaikmejacpaaaGreatDoor.Va
open Go.ChangeShapes Go.WideShapes Go.ChangeAt Go.RowKit
open Fr Fx
set_option maxRecDepth 8000
set_option linter.unusedVariables false
set_option linter.unusedSimpArgs false
set_option maxRecDepth 8000



theorem step_any (K B F R O p : Int) (w : World) (f0 : 0 <= F) (f1 : F <= 30) (hp : (2 : Int) ^ F.toNat = p) (p0 : 1 <= p) (p1 : p <= 1073741824) : Calls Tryz.prog 119 #[T5 K B F R O] w (Ret (.int .i64 p) w) := by
 go_enter Tryz.func119, Tryz.ntmps119
 go_wp2
 go_ret
 exact ⟨rfl, by go_grown⟩
theorem r_va (K B F R O n d : Int) (w : World) : Calls Tryz.prog 115 #[T5 K B F R O, V2 n d] w (Ret (.bool (vv K B F R O n d)) w) := by
 have BT := Lib.hid fun w => b_ty K B F R O w
 cases h : ty K B F R O
 ·rw [h] at BT
  rw [vv_bad h]
  clear h
  go_enter Tryz.func115, Tryz.ntmps115
  go_wp2_with (first | (go_at_call 52; (with_reducible refine (BT.out _).mono ?_); rintro e w1 ⟨rfl, hb1⟩; have hc1 := (bcell hb1).1; have hf1 := (bcell hb1).2; have z1_0 : w.heap.size < w1.heap.size := (by have hzz := hb1.size; (try simp at hzz); omega); have z1_1 : w.heap.size + 1 < w1.heap.size := (by have hzz := hb1.size; (try simp at hzz); omega); have K1 : Below w.heap.size w w1 := Below.trans (b := _) (by (repeat' (first | (with_reducible exact Below.refl _ _) | (with_reducible refine Below.alloc ?_ ?_ _) | (with_reducible refine Below.setCell ?_ ?_ _) | (with_reducible refine below_drewN ?_ _) | (simp; done) | omega | (simp; omega)))) (hb1.mono (by have hzz := hb1.size; (try simp at hzz); first | omega | (simp; done) | (simp; omega)))))
  go_ret
  exact ⟨rfl, K1⟩
 ·rw [h] at BT
  have BV := Lib.hid fun w => b_vv K B F R O n d w h
  clear h
  go_enter Tryz.func115, Tryz.ntmps115
  go_wp2_with (first | (go_at_call 52; (with_reducible refine (BT.out _).mono ?_); rintro e w1 ⟨rfl, hb1⟩; have hc1 := (bcell hb1).1; have hf1 := (bcell hb1).2; have z1_0 : w.heap.size < w1.heap.size := (by have hzz := hb1.size; (try simp at hzz); omega); have z1_1 : w.heap.size + 1 < w1.heap.size := (by have hzz := hb1.size; (try simp at hzz); omega); have K1 : Below w.heap.size w w1 := Below.trans (b := _) (by (repeat' (first | (with_reducible exact Below.refl _ _) | (with_reducible refine Below.alloc ?_ ?_ _) | (with_reducible refine Below.setCell ?_ ?_ _) | (with_reducible refine below_drewN ?_ _) | (simp; done) | omega | (simp; omega)))) (hb1.mono (by have hzz := hb1.size; (try simp at hzz); first | omega | (simp; done) | (simp; omega)))) | (go_at_call 54; (with_reducible refine (BV.out _).mono ?_); rintro e w2 ⟨rfl, hb2⟩; have hc2 := (bcell hb2).1; have hf2 := (bcell hb2).2; have z2_0 : w.heap.size < w2.heap.size := (by have hzz := hb2.size; (try simp at hzz); omega); have z2_1 : w.heap.size + 1 < w2.heap.size := (by have hzz := hb2.size; (try simp at hzz); omega); have K2 : Below w.heap.size w w2 := Below.trans (b := _) (by (repeat' (first | (with_reducible exact Below.refl _ _) | (with_reducible exact K1) | (with_reducible refine Below.alloc ?_ ?_ _) | (with_reducible refine Below.setCell ?_ ?_ _) | (with_reducible refine below_drewN ?_ _) | (simp; done) | omega | (simp; omega)))) (hb2.mono (by have hzz := hb2.size; (try simp at hzz); first | omega | (simp; done) | (simp; omega)))))
  go_ret
  exact ⟨rfl, K2⟩

end Go.Proofs.YteaaikmejacpaaaGreatDoor.Va

/- The value of a number, by the reference. -/
namespace Go.Proofs.YteaaikmejacpaaaGreatDoor.Va
open Go.ChangeShapes Go.WideShapes Go.ChangeAt Go.RowKit
open Fr Fx
set_option maxRecDepth 8000
set_option linter.unusedVariables false
set_option linter.unusedSimpArgs false
set_option maxRecDepth 8000
set_option maxHeartbeats 8000000 in
theorem r_value (K B F R O n d : Int) (w : World) (h : vv K B F R O n d = true) : Calls Tryz.prog 136 #[T5 K B F R O, V2 n d] w (Ret (V2 (rat K F n d).1 (rat K F n d).2) w) := by
 unfold rat
 obtain ⟨x1, x2, x3, x4, x5⟩ := vv_small h
 by_cases hk : K = 2
 ·rw [if_pos hk]
  have k1 : (K == 2) = true := by simpa using hk
  rw [vv_fix hk] at h
  obtain ⟨ht, -⟩ := fv_parts h
  obtain ⟨-, -, -, f0, f1, -, -, -⟩ := tv_parts ht
  obtain ⟨p0, p1⟩ := two_pow F f0 f1
  have NW := Lib.hid fun w => rnew_any n (2 ^ F.toNat) w (by omega) (by omega) (by omega) (by omega)
  obtain ⟨e1, e2, e3⟩ := new_red n F.toNat x3 x4 (by omega)
  rw [e1, e2, e3] at NW
  obtain ⟨p, hp⟩ : ∃ p, (2 : Int) ^ F.toNat = p := ⟨_, rfl⟩
  rw [hp] at p0 p1 NW
  have SP := Lib.hid fun w => step_any K B F R O p w f0 f1 hp p0 p1
  dsimp only
  generalize (red n F.toNat).1 = x at *
  generalize (2 : Int) ^ (red n F.toNat).2 = y at *
  clear h hk ht f0 f1 hp p0 p1 x1 x2 x3 x4 x5 e1 e2 e3
  go_enter Tryz.func136, Tryz.ntmps136
  go_wp2_with fail
  have hz : (((w.alloc (.cells #[.int .i64 K, .int .i64 B, .int .i64 F, .int .i64 R, .int .i64 O] 23)).alloc (.cells #[.int .i64 n, .int .i64 d] 29)).alloc (.cells #[.int .i64 0, .int .i64 0] 29)).cell? ⟨w.heap.size, 0, none⟩ = some (.int .i64 K) /\ (((w.alloc (.cells #[.int .i64 K, .int .i64 B, .int .i64 F, .int .i64 R, .int .i64 O] 23)).alloc (.cells #[.int .i64 n, .int .i64 d] 29)).alloc (.cells #[.int .i64 0, .int .i64 0] 29)).cell? ⟨w.heap.size, 1, none⟩ = some (.int .i64 B) /\ (((w.alloc (.cells #[.int .i64 K, .int .i64 B, .int .i64 F, .int .i64 R, .int .i64 O] 23)).alloc (.cells #[.int .i64 n, .int .i64 d] 29)).alloc (.cells #[.int .i64 0, .int .i64 0] 29)).cell? ⟨w.heap.size, 2, none⟩ = some (.int .i64 F) /\ (((w.alloc (.cells #[.int .i64 K, .int .i64 B, .int .i64 F, .int .i64 R, .int .i64 O] 23)).alloc (.cells #[.int .i64 n, .int .i64 d] 29)).alloc (.cells #[.int .i64 0, .int .i64 0] 29)).cell? ⟨w.heap.size, 3, none⟩ = some (.int .i64 R) /\ (((w.alloc (.cells #[.int .i64 K, .int .i64 B, .int .i64 F, .int .i64 R, .int .i64 O] 23)).alloc (.cells #[.int .i64 n, .int .i64 d] 29)).alloc (.cells #[.int .i64 0, .int .i64 0] 29)).cell? ⟨w.heap.size, 4, none⟩ = some (.int .i64 O) /\ (((w.alloc (.cells #[.int .i64 K, .int .i64 B, .int .i64 F, .int .i64 R, .int .i64 O] 23)).alloc (.cells #[.int .i64 n, .int .i64 d] 29)).alloc (.cells #[.int .i64 0, .int .i64 0] 29)).cell? ⟨w.heap.size + 1, 0, none⟩ = some (.int .i64 n) /\ (((w.alloc (.cells #[.int .i64 K, .int .i64 B, .int .i64 F, .int .i64 R, .int .i64 O] 23)).alloc (.cells #[.int .i64 n, .int .i64 d] 29)).alloc (.cells #[.int .i64 0, .int .i64 0] 29)).cell? ⟨w.heap.size + 1, 1, none⟩ = some (.int .i64 d) /\ (((w.alloc (.cells #[.int .i64 K, .int .i64 B, .int .i64 F, .int .i64 R, .int .i64 O] 23)).alloc (.cells #[.int .i64 n, .int .i64 d] 29)).alloc (.cells #[.int .i64 0, .int .i64 0] 29)).cell? ⟨w.heap.size + 1 + 1, 0, none⟩ = some (.int .i64 0) /\ (((w.alloc (.cells #[.int .i64 K, .int .i64 B, .int .i64 F, .int .i64 R, .int .i64 O] 23)).alloc (.cells #[.int .i64 n, .int .i64 d] 29)).alloc (.cells #[.int .i64 0, .int .i64 0] 29)).cell? ⟨w.heap.size + 1 + 1, 1, none⟩ = some (.int .i64 0) /\ (((w.alloc (.cells #[.int .i64 K, .int .i64 B, .int .i64 F, .int .i64 R, .int .i64 O] 23)).alloc (.cells #[.int .i64 n, .int .i64 d] 29)).alloc (.cells #[.int .i64 0, .int .i64 0] 29)).frozen? ⟨w.heap.size + 1, 0, none⟩ = false /\ (((w.alloc (.cells #[.int .i64 K, .int .i64 B, .int .i64 F, .int .i64 R, .int .i64 O] 23)).alloc (.cells #[.int .i64 n, .int .i64 d] 29)).alloc (.cells #[.int .i64 0, .int .i64 0] 29)).frozen? ⟨w.heap.size + 1, 1, none⟩ = false /\ (((w.alloc (.cells #[.int .i64 K, .int .i64 B, .int .i64 F, .int .i64 R, .int .i64 O] 23)).alloc (.cells #[.int .i64 n, .int .i64 d] 29)).alloc (.cells #[.int .i64 0, .int .i64 0] 29)).frozen? ⟨w.heap.size + 1 + 1, 0, none⟩ = false /\ (((w.alloc (.cells #[.int .i64 K, .int .i64 B, .int .i64 F, .int .i64 R, .int .i64 O] 23)).alloc (.cells #[.int .i64 n, .int .i64 d] 29)).alloc (.cells #[.int .i64 0, .int .i64 0] 29)).frozen? ⟨w.heap.size + 1 + 1, 1, none⟩ = false /\ Below w.heap.size w (((w.alloc (.cells #[.int .i64 K, .int .i64 B, .int .i64 F, .int .i64 R, .int .i64 O] 23)).alloc (.cells #[.int .i64 n, .int .i64 d] 29)).alloc (.cells #[.int .i64 0, .int .i64 0] 29)) := ⟨(by go_cell), (by go_cell), (by go_cell), (by go_cell), (by go_cell), (by go_cell), (by go_cell), (by go_cell), (by go_cell), (by simp only [frozen?_alloc_cells]; exact Rg.notFrozen (by omega)), (by simp only [frozen?_alloc_cells]; exact Rg.notFrozen (by omega)), (by simp only [frozen?_alloc_cells]; exact Rg.notFrozen (by omega)), (by simp only [frozen?_alloc_cells]; exact Rg.notFrozen (by omega)), by go_grown⟩
  generalize (((w.alloc (.cells #[.int .i64 K, .int .i64 B, .int .i64 F, .int .i64 R, .int .i64 O] 23)).alloc (.cells #[.int .i64 n, .int .i64 d] 29)).alloc (.cells #[.int .i64 0, .int .i64 0] 29)) = z at *
  have HS : Hid (∀ u u' : World, (u.cell? ⟨w.heap.size, 0, none⟩ = some (.int .i64 K) /\ u.cell? ⟨w.heap.size, 1, none⟩ = some (.int .i64 B) /\ u.cell? ⟨w.heap.size, 2, none⟩ = some (.int .i64 F) /\ u.cell? ⟨w.heap.size, 3, none⟩ = some (.int .i64 R) /\ u.cell? ⟨w.heap.size, 4, none⟩ = some (.int .i64 O) /\ u.cell? ⟨w.heap.size + 1, 0, none⟩ = some (.int .i64 n) /\ u.cell? ⟨w.heap.size + 1, 1, none⟩ = some (.int .i64 d) /\ u.cell? ⟨w.heap.size + 1 + 1, 0, none⟩ = some (.int .i64 0) /\ u.cell? ⟨w.heap.size + 1 + 1, 1, none⟩ = some (.int .i64 0) /\ u.frozen? ⟨w.heap.size + 1, 0, none⟩ = false /\ u.frozen? ⟨w.heap.size + 1, 1, none⟩ = false /\ u.frozen? ⟨w.heap.size + 1 + 1, 0, none⟩ = false /\ u.frozen? ⟨w.heap.size + 1 + 1, 1, none⟩ = false /\ Below w.heap.size w u) -> Below u.heap.size u u' -> (u'.cell? ⟨w.heap.size, 0, none⟩ = some (.int .i64 K) /\ u'.cell? ⟨w.heap.size, 1, none⟩ = some (.int .i64 B) /\ u'.cell? ⟨w.heap.size, 2, none⟩ = some (.int .i64 F) /\ u'.cell? ⟨w.heap.size, 3, none⟩ = some (.int .i64 R) /\ u'.cell? ⟨w.heap.size, 4, none⟩ = some (.int .i64 O) /\ u'.cell? ⟨w.heap.size + 1, 0, none⟩ = some (.int .i64 n) /\ u'.cell? ⟨w.heap.size + 1, 1, none⟩ = some (.int .i64 d) /\ u'.cell? ⟨w.heap.size + 1 + 1, 0, none⟩ = some (.int .i64 0) /\ u'.cell? ⟨w.heap.size + 1 + 1, 1, none⟩ = some (.int .i64 0) /\ u'.frozen? ⟨w.heap.size + 1, 0, none⟩ = false /\ u'.frozen? ⟨w.heap.size + 1, 1, none⟩ = false /\ u'.frozen? ⟨w.heap.size + 1 + 1, 0, none⟩ = false /\ u'.frozen? ⟨w.heap.size + 1 + 1, 1, none⟩ = false /\ Below w.heap.size w u')) := Lib.hid (fun u u' h hb => ⟨Rg.keep hb (World.block_lt_of_cell? _ _ h.1) h.1, Rg.keep hb (World.block_lt_of_cell? _ _ h.2.1) h.2.1, Rg.keep hb (World.block_lt_of_cell? _ _ h.2.2.1) h.2.2.1, Rg.keep hb (World.block_lt_of_cell? _ _ h.2.2.2.1) h.2.2.2.1, Rg.keep hb (World.block_lt_of_cell? _ _ h.2.2.2.2.1) h.2.2.2.2.1, Rg.keep hb (World.block_lt_of_cell? _ _ h.2.2.2.2.2.1) h.2.2.2.2.2.1, Rg.keep hb (World.block_lt_of_cell? _ _ h.2.2.2.2.2.2.1) h.2.2.2.2.2.2.1, Rg.keep hb (World.block_lt_of_cell? _ _ h.2.2.2.2.2.2.2.1) h.2.2.2.2.2.2.2.1, Rg.keep hb (World.block_lt_of_cell? _ _ h.2.2.2.2.2.2.2.2.1) h.2.2.2.2.2.2.2.2.1, Rg.keepF hb (World.block_lt_of_cell? _ _ h.2.2.2.2.2.1) h.2.2.2.2.2.2.2.2.2.1, Rg.keepF hb (World.block_lt_of_cell? _ _ h.2.2.2.2.2.1) h.2.2.2.2.2.2.2.2.2.2.1, Rg.keepF hb (World.block_lt_of_cell? _ _ h.2.2.2.2.2.2.2.1) h.2.2.2.2.2.2.2.2.2.2.2.1, Rg.keepF hb (World.block_lt_of_cell? _ _ h.2.2.2.2.2.2.2.1) h.2.2.2.2.2.2.2.2.2.2.2.2.1, h.2.2.2.2.2.2.2.2.2.2.2.2.2.trans (hb.mono h.2.2.2.2.2.2.2.2.2.2.2.2.2.size)⟩)
  refine Rk.begin (S := fun wS => wS.cell? ⟨w.heap.size, 0, none⟩ = some (.int .i64 K) /\ wS.cell? ⟨w.heap.size, 1, none⟩ = some (.int .i64 B) /\ wS.cell? ⟨w.heap.size, 2, none⟩ = some (.int .i64 F) /\ wS.cell? ⟨w.heap.size, 3, none⟩ = some (.int .i64 R) /\ wS.cell? ⟨w.heap.size, 4, none⟩ = some (.int .i64 O) /\ wS.cell? ⟨w.heap.size + 1, 0, none⟩ = some (.int .i64 n) /\ wS.cell? ⟨w.heap.size + 1, 1, none⟩ = some (.int .i64 d) /\ wS.cell? ⟨w.heap.size + 1 + 1, 0, none⟩ = some (.int .i64 0) /\ wS.cell? ⟨w.heap.size + 1 + 1, 1, none⟩ = some (.int .i64 0) /\ wS.frozen? ⟨w.heap.size + 1, 0, none⟩ = false /\ wS.frozen? ⟨w.heap.size + 1, 1, none⟩ = false /\ wS.frozen? ⟨w.heap.size + 1 + 1, 0, none⟩ = false /\ wS.frozen? ⟨w.heap.size + 1 + 1, 1, none⟩ = false /\ Below w.heap.size w wS) 8 (by kernel_rfl) (HS.out _ _ hz (Below.drew (Below.refl _ _))) (fun hHeld => ?_)
  refine Rk.takeP (i := 0) (v := ?_) rfl (by kernel_rfl) (by kernel_rfl) (by kernel_rfl) (by kernel_rfl) (fun _ _ _ h => h) (Or.inl ⟨by kernel_rfl, ?_⟩) (by assumption) ?_
  rotate_left
  ·((intro w hSw; go_simp) <;> with_reducible rfl)
  try simp only [Act.put, List.setIfInBounds_toArray, List.set_cons_zero, List.set_cons_succ]
  refine Rk.take [8] (i := 1) (v := ?_) rfl (by kernel_rfl) (by kernel_rfl) (by kernel_rfl) (by kernel_rfl) (by kernel_rfl) (fun _ _ _ h => h) (Or.inl ⟨by kernel_rfl, ?_⟩) (by assumption) ?_
  rotate_left
  ·((intro w hSw; (try dsimp only at hSw); go_simp) <;> with_reducible rfl)
  try simp only [Act.put, List.setIfInBounds_toArray, List.set_cons_zero, List.set_cons_succ]
  refine Rk.take [8] (i := 2) (v := ?_) rfl (by kernel_rfl) (by kernel_rfl) (by kernel_rfl) (by kernel_rfl) (by kernel_rfl) (fun _ _ _ h => h) (Or.inl ⟨by kernel_rfl, ?_⟩) (by assumption) ?_
  rotate_left
  ·((intro w hSw; (try dsimp only at hSw); go_simp) <;> with_reducible rfl)
  try simp only [Act.put, List.setIfInBounds_toArray, List.set_cons_zero, List.set_cons_succ]
  refine Rk.one (i := 3) (by kernel_rfl) rfl (fun KK hK => ?_)
  rw [if_pos (by kernel_rfl)]
  go_simp
  ((with_reducible refine (SP.out _).mono ?_); rintro e u ⟨rfl, hb⟩)
  first | (refine hK.out _ _ (fun _ => HS.out _ _ hHeld hb) (fun hHeld => ?_)) | (refine hK.out _ _ (HS.out _ _ hHeld hb) (fun hHeld => ?_)) | (go_wp2_with fail; refine hK.out _ _ (HS.out _ _ hHeld hb) (fun hHeld => ?_))
  clear hK KK
  refine Rk.one (i := 4) (by kernel_rfl) rfl (fun KK hK => ?_)
  rw [if_pos (by kernel_rfl)]
  go_simp
  ((with_reducible refine (NW.out _).mono ?_); rintro e u ⟨rfl, hb⟩)
  first | (refine hK.out _ _ (fun _ => HS.out _ _ hHeld hb) (fun hHeld => ?_)) | (refine hK.out _ _ (HS.out _ _ hHeld hb) (fun hHeld => ?_)) | (go_wp2_with fail; refine hK.out _ _ (HS.out _ _ hHeld hb) (fun hHeld => ?_))
  clear hK KK
  refine Rk.takeP (i := 5) (v := ?_) rfl (by kernel_rfl) (by kernel_rfl) (by kernel_rfl) (by kernel_rfl) (fun _ _ _ h => h) (Or.inl ⟨by kernel_rfl, ?_⟩) (by assumption) ?_
  rotate_left
  ·((intro w hSw; go_simp) <;> with_reducible rfl)
  try simp only [Act.put, List.setIfInBounds_toArray, List.set_cons_zero, List.set_cons_succ]
  refine Rk.takeP (i := 6) (v := ?_) rfl (by kernel_rfl) (by kernel_rfl) (by kernel_rfl) (by kernel_rfl) (fun _ _ _ h => h) (Or.inl ⟨by kernel_rfl, ?_⟩) (by assumption) ?_
  rotate_left
  ·((intro w hSw; go_simp) <;> with_reducible rfl)
  try simp only [Act.put, List.setIfInBounds_toArray, List.set_cons_zero, List.set_cons_succ]
  refine Rk.takeP (i := 7) (v := ?_) rfl (by kernel_rfl) (by kernel_rfl) (by kernel_rfl) (by kernel_rfl) (fun _ _ _ h => h) (Or.inl ⟨by kernel_rfl, ?_⟩) (by assumption) ?_
  rotate_left
  ·((intro w hSw; go_simp) <;> with_reducible rfl)
  try simp only [Act.put, List.setIfInBounds_toArray, List.set_cons_zero, List.set_cons_succ]
  refine Rk.tail [8] [_] (by kernel_rfl) (by kernel_rfl) rfl (by decide) ?_
  obtain ⟨t0, t1, t2, t3, t4, v0, v1, r0, r1, fv0, fv1, fr0, fr1, K1⟩ := hHeld
  clear hz HS
  have q1 : w.heap.size + 1 < u.heap.size := World.block_lt_of_cell? _ _ v0
  have q2 : w.heap.size + 1 + 1 < u.heap.size := World.block_lt_of_cell? _ _ r0
  go_wp2
  refine bodyPost_ret (v := V2 x y) (by simp [results, Tryz.results136, go_sem, v0, v1, r0, r1, fv0, fv1, fr0, fr1, q1, q2]) rfl ⟨rfl, ?_⟩; (repeat' (first | (with_reducible exact Below.refl _ _) | (with_reducible exact K1) | (with_reducible refine Below.alloc ?_ ?_ _) | (with_reducible refine Below.setCell ?_ ?_ _) | (with_reducible refine below_drewN ?_ _) | (simp; done) | omega | (simp; omega)))
 ·rw [if_neg hk]
  have k1 : (K == 2) = false := by simpa using hk
  clear h hk x1 x2 x3 x4 x5
  go_enter Tryz.func136, Tryz.ntmps136
  go_wp2
  refine bodyPost_ret (v := V2 n d) (by simp [results, Tryz.results136, go_sem]) rfl ⟨rfl, ?_⟩; (repeat' (first | (with_reducible exact Below.refl _ _) | (with_reducible refine Below.alloc ?_ ?_ _) | (with_reducible refine Below.setCell ?_ ?_ _) | (with_reducible refine below_drewN ?_ _) | (simp; done) | omega | (simp; omega)))
end Go.Proofs.YteaaikmejacpaaaGreatDoor.Va

/- Equal of the standard library; Same of package shape. -/
namespace Go.Proofs.YteaaikmejacpaaaGreatDoor.Sh
open Go.ChangeShapes Go.WideShapes Go.ChangeAt Go.RowKit
set_option maxRecDepth 8000
set_option linter.unusedVariables false
set_option linter.unusedSimpArgs false
set_option maxHeartbeats 4000000 in
theorem c49 (p q : Option Addr) (xs ys : List Int) (c d : Nat) (w : World) (hx : xs.length <= maxLen) (hy : ys.length <= maxLen) (RA : Hid (SlI w p xs)) (RB : Hid (SlI w q ys)) :
  Calls Tryz.prog 91 #[.slice p xs.length c, .slice q ys.length d] w fun e w' => e = .returned (.bool (decide (xs = ys))) /\ ∃ k, w' = w.drewN k := by
 unfold maxLen at hx hy
 by_cases hl : xs.length = ys.length
 ·obtain ⟨n, hn⟩ : ∃ n, xs.length = n := ⟨_, rfl⟩
  have hm : ys.length = n := by omega
  have HN := Lib.hid hn
  have HM := Lib.hid hm
  rw [hn] at hx ⊢
  rw [hm]
  clear hn hm hl hy
  go_enter Tryz.func91, Tryz.ntmps91
  go_wp2
  go_loopw [13] (fun i wr => ∃ k : Nat, i = .int .i64 k /\ k <= n /\ Hid (∀ j, j < k -> xs.getD j 0 = ys.getD j 0) /\ ∃ m, wr = w.drewN m) (fun i _ => n - (intOf i).toNat)
  case atStart => exact ⟨0, rfl, by omega, Lib.hid fun j hj => by omega, 0, rfl⟩
  case round =>
   obtain ⟨k, rfl, hk, hL, m, rfl⟩ := hrel
   by_cases hlt : k < n
   ·obtain ⟨b, o, rfl, hc⟩ := RA.out k (by rw [HN.out]; exact hlt)
    obtain ⟨b', o', rfl, hc'⟩ := RB.out k (by rw [HM.out]; exact hlt)
    obtain ⟨x, hX⟩ : ∃ x, xs.getD k 0 = x := ⟨_, rfl⟩
    obtain ⟨y, hY⟩ : ∃ y, ys.getD k 0 = y := ⟨_, rfl⟩
    rw [hX] at hc
    rw [hY] at hc'
    have HX := Lib.hid hX
    have HY := Lib.hid hY
    have mi : (0 : Int) <= k := by omega
    have mi2 : (k : Int) < n := by omega
    clear hX hY
    obtain ⟨t, ht⟩ : ∃ t, (x != y) = t := ⟨_, rfl⟩
    have HT := Lib.hid ht
    cases t
    ·go_wp2
     go_quiet (fail)
     go_wp2
     go_roundw
     case rel => exact ⟨k + 1, by go_num, by omega, Lib.hid fun j hj => by
      rcases (by omega : j < k \/ j = k) with h | rfl
      ·exact hL.out j h
      ·rw [HX.out, HY.out]; simpa using HT.out, m + nq, by first | rfl | rw [World.drewN_drewN]⟩
     case measure => simp [intOf]; omega
    ·go_wp2
     go_quiet (fail)
     go_wp2
     go_ret
     refine ⟨?_, m + nq, by first | rfl | rw [World.drewN_drewN]⟩
     refine ret_bool (decide_eq_false fun h => ?_).symm
     have h2 := HT.out
     rw [<- HX.out, <- HY.out, h] at h2
     simp at h2
   ·go_wp2
    go_ret
    refine ⟨?_, m, rfl⟩
    refine ret_bool (decide_eq_true ?_).symm
    refine List.ext_getElem (by rw [HN.out, HM.out]) fun j h1 h2 => ?_
    have h := hL.out j (by rw [HN.out] at h1; omega)
    rw [getD_at h1, getD_at h2] at h
    exact h
 ·have k1 : ((xs.length : Int) != ys.length) = true := by simp <;> omega
  have k2 : (xs.length != ys.length) = true := by simpa using hl
  have k3 : (xs.length == ys.length) = false := by simpa using hl
  rw [decide_eq_false (fun h => hl (by rw [h]))]
  have HL := Lib.hid hl
  clear hl
  go_enter Tryz.func91, Tryz.ntmps91
  go_wp2
  go_ret
  exact ⟨rfl, 0, rfl⟩
set_option maxHeartbeats 2000000 in
theorem c31 (p q : Option Addr) (xs ys : List Int) (c d : Nat) (w : World) (hx : xs.length <= maxLen) (hy : ys.length <= maxLen) (RA : Hid (SlI w p xs)) (RB : Hid (SlI w q ys)) :
  Calls Tryz.prog 60 #[.slice p xs.length c, .slice q ys.length d] w fun e w' => e = .returned (.bool (decide (xs = ys))) /\ ∃ k, w' = w.drewN k := by
 have C := Lib.hid (c49 p q xs ys c d w hx hy RA RB)
 generalize decide (xs = ys) = t at *
 go_enter Tryz.func60, Tryz.ntmps60
 go_wp2_with (go_at_call 91; refine (C.out).mono ?_; rintro e w' ⟨rfl, k, rfl⟩)
 go_ret
 exact ⟨rfl, k, rfl⟩
end Go.Proofs.YteaaikmejacpaaaGreatDoor.Sh

/- Tensors: Vals. -/
namespace Go.Proofs.YteaaikmejacpaaaGreatDoor.Te
open Go.ChangeShapes Go.WideShapes Go.ChangeAt Go.RowKit
open Fx Va Sh
set_option maxRecDepth 8000
set_option linter.unusedVariables false
set_option linter.unusedSimpArgs false

theorem vals_ext {vs ws : List (Int × Int)} {n : Nat} (h1 : vs.length = n) (h2 : ws.length = n) (h : ∀ j, j < n -> vs.getD j (0, 0) = ws.getD j (0, 0)) : vs = ws := by
 refine List.ext_getElem (by rw [h1, h2]) fun j a b => ?_
 have hh := h j (by omega)
 rw [List.getD_eq_getElem?_getD, List.getElem?_eq_getElem a, List.getD_eq_getElem?_getD, List.getElem?_eq_getElem b] at hh
 exact hh
set_option maxRecDepth 100000 in
set_option maxHeartbeats 2000000 in
theorem bvals (q r : Option Addr) (vs ws : List (Int × Int)) (d e : Nat) (w : World) (hm : vs.length <= maxLen) (hk : ws.length <= maxLen) (RA : Hid (SlV w q vs)) (RB : Hid (SlV w r ws)) :
  Calls Tryz.prog 36 #[.slice q vs.length d, .slice r ws.length e] w fun e w' => e = .returned (.bool (decide (vs = ws))) /\ ∃ k, w' = w.drewN k := by
 unfold maxLen at hm hk
 by_cases hl : vs.length = ws.length
 ·obtain ⟨n, hn⟩ : ∃ n, vs.length = n := ⟨_, rfl⟩
  have hnm : ws.length = n := by omega
  have HN := Lib.hid hn
  have HM := Lib.hid hnm
  rw [hn] at hm ⊢
  rw [hnm]
  clear hn hnm hl hk
  go_enter Tryz.func36, Tryz.ntmps36
  go_wp2
  go_loopw [5] (fun i wr => ∃ k : Nat, i = .int .i64 k /\ k <= n /\ Hid (∀ j, j < k -> vs.getD j (0, 0) = ws.getD j (0, 0)) /\ ∃ m, wr = w.drewN m) (fun i _ => n - (intOf i).toNat)
  case atStart => exact ⟨0, rfl, by omega, Lib.hid fun j hj => by omega, 0, rfl⟩
  case round =>
   obtain ⟨k, rfl, hk, hL, m, rfl⟩ := hrel
   by_cases hlt : k < n
   ·obtain ⟨b, o, rfl, v0, v1⟩ := RA.out k (by rw [HN.out]; exact hlt)
    obtain ⟨b', o', rfl, u0, u1⟩ := RB.out k (by rw [HM.out]; exact hlt)
    obtain ⟨⟨x, x'⟩, hX⟩ : ∃ x, vs.getD k (0, 0) = x := ⟨_, rfl⟩
    obtain ⟨⟨y, y'⟩, hY⟩ : ∃ y, ws.getD k (0, 0) = y := ⟨_, rfl⟩
    rw [hX] at v0 v1
    rw [hY] at u0 u1
    dsimp only at v0 v1 u0 u1
    have HX := Lib.hid hX
    have HY := Lib.hid hY
    have mi : (0 : Int) <= k := by omega
    have mi2 : (k : Int) < n := by omega
    clear hX hY
    by_cases h1 : x = y
    ·by_cases h2 : x' = y'
     ·subst h1 h2
      go_wp2
      go_quiet (fail)
      go_wp2
      go_roundw
      case rel => exact ⟨k + 1, by go_num, by omega, Lib.hid fun j hj => by
       rcases (by omega : j < k \/ j = k) with h | rfl
       ·exact hL.out j h
       ·rw [HX.out, HY.out], m + nq, by first | rfl | rw [World.drewN_drewN]⟩
      case measure => simp [intOf]; omega
     ·subst h1
      have g1 : (x' == y') = false := by simpa using h2
      have H2 := Lib.hid h2
      clear h2
      go_wp2
      go_quiet (fail)
      go_wp2
      go_ret
      refine ⟨?_, m + nq, by first | rfl | rw [World.drewN_drewN]⟩
      refine ret_bool (decide_eq_false fun h => ?_).symm
      have h3 := HX.out
      rw [h, HY.out] at h3
      exact H2.out (congrArg Prod.snd h3).symm
    ·have g1 : (x == y) = false := by simpa using h1
     have H2 := Lib.hid h1
     clear h1
     go_wp2
     go_quiet (fail)
     go_wp2
     go_ret
     refine ⟨?_, m + nq, by first | rfl | rw [World.drewN_drewN]⟩
     refine ret_bool (decide_eq_false fun h => ?_).symm
     have h3 := HX.out
     rw [h, HY.out] at h3
     exact H2.out (congrArg Prod.fst h3).symm
   ·go_wp2
    go_ret
    refine ⟨?_, m, rfl⟩
    refine ret_bool (decide_eq_true ?_).symm
    exact vals_ext HN.out HM.out fun j hj => hL.out j (by omega)
 ·have k1 : ((vs.length : Int) != ws.length) = true := by simp <;> omega
  have k2 : (vs.length != ws.length) = true := by simpa using hl
  have k3 : (vs.length == ws.length) = false := by simpa using hl
  rw [decide_eq_false (fun h => hl (by rw [h]))]
  have HL := Lib.hid hl
  clear hl
  go_enter Tryz.func36, Tryz.ntmps36
  go_wp2
  go_ret
  exact ⟨rfl, 0, rfl⟩
end Go.Proofs.YteaaikmejacpaaaGreatDoor.Te

/- Tensors: Tensor of package base. -/
namespace Go.Proofs.YteaaikmejacpaaaGreatDoor.Te
open Go.ChangeShapes Go.WideShapes Go.ChangeAt Go.RowKit
open Fx Va Sh
set_option maxRecDepth 8000
set_option linter.unusedVariables false
set_option linter.unusedSimpArgs false

/-- Two types are equal. -/
def tyEq (K B F R O K' B' F' R' O' : Int) : Bool := K == K' && (B == B' && (F == F' && (R == R' && O == O')))
theorem tyEq_same (K B F R O : Int) : tyEq K B F R O K B F R O = true := by unfold tyEq; simp
theorem tyEq_no {K B F R O K' B' F' R' O' : Int} (h : ¬ (K = K' /\ B = B' /\ F = F' /\ R = R' /\ O = O')) : tyEq K B F R O K' B' F' R' O' = false := by
 cases e : tyEq K B F R O K' B' F' R' O'
 ·rfl
 ·exact absurd (by unfold tyEq at e; simpa using e) h

set_option maxRecDepth 100000 in
set_option maxHeartbeats 4000000 in
theorem btenG (K B F R O : Int) (p : Option Addr) (zs : List Int) (c : Nat) (q : Option Addr) (vs : List (Int × Int)) (d : Nat) (K' B' F' R' O' : Int) (p' : Option Addr) (zs' : List Int) (c' : Nat) (q' : Option Addr) (vs' : List (Int × Int)) (d' : Nat) (w : World) (hn : zs.length <= maxLen) (hm : vs.length <= maxLen) (hn' : zs'.length <= maxLen) (hm' : vs'.length <= maxLen) (RA : Hid (SlI w p zs)) (RB : Hid (SlV w q vs)) (RA' : Hid (SlI w p' zs')) (RB' : Hid (SlV w q' vs')) :
  Calls Tryz.prog 22 #[Tn K B F R O p zs.length c q vs.length d, Tn K' B' F' R' O' p' zs'.length c' q' vs'.length d'] w fun e w' => e = .returned (.bool (tyEq K B F R O K' B' F' R' O' && (decide (zs = zs') && decide (vs = vs')))) /\ Below w.heap.size w w' := by
 have BI0 := fun u h1 h2 => c18 p p' zs zs' c c' u hn hn' h1 h2
 have BV0 := fun u h1 h2 => bvals q q' vs vs' d d' u hm hm' h1 h2
 have K0 := Lib.hid (((Below.refl w.heap.size w).alloc (Nat.le_refl _) (Obj.cells #[Value.int .i64 K, Value.int .i64 B, Value.int .i64 F, Value.int .i64 R, Value.int .i64 O, Value.slice p zs.length c, Value.slice q vs.length d] 27)).alloc (by simp) (Obj.cells #[Value.int .i64 K', Value.int .i64 B', Value.int .i64 F', Value.int .i64 R', Value.int .i64 O', Value.slice p' zs'.length c', Value.slice q' vs'.length d'] 27))
 by_cases hT : K = K' /\ B = B' /\ F = F' /\ R = R' /\ O = O'
 ·obtain ⟨h1, h2, h3, h4, h5⟩ := hT
  subst h1 h2 h3 h4 h5
  rw [tyEq_same, Bool.true_and]
  by_cases hz : zs = zs'
  ·rw [decide_eq_true hz] at BI0
   by_cases hv : vs = vs'
   ·rw [decide_eq_true hv] at BV0
    rw [decide_eq_true hz, decide_eq_true hv, Bool.true_and]
    have BI := Lib.hid BI0
    have BV := Lib.hid BV0
    clear BI0 BV0 hz hv
    clear hn hm hn' hm'
    unfold Tn at *
    go_enter Tryz.func22, Tryz.ntmps22
    go_wp2_with (first | (go_at_call 28; (with_reducible refine (BI.out _ (Lib.hid (SlI.keep K0.out RA.out)) (Lib.hid (SlI.keep K0.out RA'.out))).mono ?_); rintro e w2 ⟨rfl, k1, rfl⟩) | (go_at_call 36; (with_reducible refine (BV.out _ (Lib.hid (SlV.below RB.out (below_drewN K0.out k1))) (Lib.hid (SlV.below RB'.out (below_drewN K0.out k1)))).mono ?_); rintro e w3 ⟨rfl, k2, rfl⟩))
    go_ret
    exact ⟨rfl, by first | exact below_drewN (below_drewN K0.out _) _ | exact below_drewN K0.out _ | exact K0.out⟩
   ·rw [decide_eq_false hv] at BV0
    rw [decide_eq_true hz, decide_eq_false hv, Bool.true_and]
    have BI := Lib.hid BI0
    have BV := Lib.hid BV0
    clear BI0 BV0 hz hv
    clear hn hm hn' hm'
    unfold Tn at *
    go_enter Tryz.func22, Tryz.ntmps22
    go_wp2_with (first | (go_at_call 28; (with_reducible refine (BI.out _ (Lib.hid (SlI.keep K0.out RA.out)) (Lib.hid (SlI.keep K0.out RA'.out))).mono ?_); rintro e w2 ⟨rfl, k1, rfl⟩) | (go_at_call 36; (with_reducible refine (BV.out _ (Lib.hid (SlV.below RB.out (below_drewN K0.out k1))) (Lib.hid (SlV.below RB'.out (below_drewN K0.out k1)))).mono ?_); rintro e w3 ⟨rfl, k2, rfl⟩))
    go_ret
    exact ⟨rfl, by first | exact below_drewN (below_drewN K0.out _) _ | exact below_drewN K0.out _ | exact K0.out⟩
  ·rw [decide_eq_false hz] at BI0
   rw [decide_eq_false hz, Bool.false_and]
   have BI := Lib.hid BI0
   have BV := Lib.hid BV0
   clear BI0 BV0 hz
   clear hn hm hn' hm'
   unfold Tn at *
   go_enter Tryz.func22, Tryz.ntmps22
   go_wp2_with (first | (go_at_call 28; (with_reducible refine (BI.out _ (Lib.hid (SlI.keep K0.out RA.out)) (Lib.hid (SlI.keep K0.out RA'.out))).mono ?_); rintro e w2 ⟨rfl, k1, rfl⟩) | (go_at_call 36; (with_reducible refine (BV.out _ (Lib.hid (SlV.below RB.out (below_drewN K0.out k1))) (Lib.hid (SlV.below RB'.out (below_drewN K0.out k1)))).mono ?_); rintro e w3 ⟨rfl, k2, rfl⟩))
   go_ret
   exact ⟨rfl, by first | exact below_drewN (below_drewN K0.out _) _ | exact below_drewN K0.out _ | exact K0.out⟩
 ·rw [tyEq_no hT, Bool.false_and]
  have BI := Lib.hid BI0
  have BV := Lib.hid BV0
  clear BI0 BV0
  by_cases h0 : K = K'
  ·subst h0
   by_cases h1 : B = B'
   ·subst h1
    by_cases h2 : F = F'
    ·subst h2
     by_cases h3 : R = R'
     ·subst h3
      have g5 : (O == O') = false := by rw [beq_eq_false_iff_ne]; exact fun h => hT ⟨rfl, rfl, rfl, rfl, h⟩
      clear hT
      clear hn hm hn' hm'
      unfold Tn at *
      go_enter Tryz.func22, Tryz.ntmps22
      go_wp2_with (first | (go_at_call 28; (with_reducible refine (BI.out _ (Lib.hid (SlI.keep K0.out RA.out)) (Lib.hid (SlI.keep K0.out RA'.out))).mono ?_); rintro e w2 ⟨rfl, k1, rfl⟩) | (go_at_call 36; (with_reducible refine (BV.out _ (Lib.hid (SlV.below RB.out (below_drewN K0.out k1))) (Lib.hid (SlV.below RB'.out (below_drewN K0.out k1)))).mono ?_); rintro e w3 ⟨rfl, k2, rfl⟩))
      go_ret
      exact ⟨rfl, by first | exact below_drewN (below_drewN K0.out _) _ | exact below_drewN K0.out _ | exact K0.out⟩
     ·have g5 : (R == R') = false := by rw [beq_eq_false_iff_ne]; exact h3
      clear hT h3
      clear hn hm hn' hm'
      unfold Tn at *
      go_enter Tryz.func22, Tryz.ntmps22
      go_wp2_with (first | (go_at_call 28; (with_reducible refine (BI.out _ (Lib.hid (SlI.keep K0.out RA.out)) (Lib.hid (SlI.keep K0.out RA'.out))).mono ?_); rintro e w2 ⟨rfl, k1, rfl⟩) | (go_at_call 36; (with_reducible refine (BV.out _ (Lib.hid (SlV.below RB.out (below_drewN K0.out k1))) (Lib.hid (SlV.below RB'.out (below_drewN K0.out k1)))).mono ?_); rintro e w3 ⟨rfl, k2, rfl⟩))
      go_ret
      exact ⟨rfl, by first | exact below_drewN (below_drewN K0.out _) _ | exact below_drewN K0.out _ | exact K0.out⟩
    ·have g5 : (F == F') = false := by rw [beq_eq_false_iff_ne]; exact h2
     clear hT h2
     clear hn hm hn' hm'
     unfold Tn at *
     go_enter Tryz.func22, Tryz.ntmps22
     go_wp2_with (first | (go_at_call 28; (with_reducible refine (BI.out _ (Lib.hid (SlI.keep K0.out RA.out)) (Lib.hid (SlI.keep K0.out RA'.out))).mono ?_); rintro e w2 ⟨rfl, k1, rfl⟩) | (go_at_call 36; (with_reducible refine (BV.out _ (Lib.hid (SlV.below RB.out (below_drewN K0.out k1))) (Lib.hid (SlV.below RB'.out (below_drewN K0.out k1)))).mono ?_); rintro e w3 ⟨rfl, k2, rfl⟩))
     go_ret
     exact ⟨rfl, by first | exact below_drewN (below_drewN K0.out _) _ | exact below_drewN K0.out _ | exact K0.out⟩
   ·have g5 : (B == B') = false := by rw [beq_eq_false_iff_ne]; exact h1
    clear hT h1
    clear hn hm hn' hm'
    unfold Tn at *
    go_enter Tryz.func22, Tryz.ntmps22
    go_wp2_with (first | (go_at_call 28; (with_reducible refine (BI.out _ (Lib.hid (SlI.keep K0.out RA.out)) (Lib.hid (SlI.keep K0.out RA'.out))).mono ?_); rintro e w2 ⟨rfl, k1, rfl⟩) | (go_at_call 36; (with_reducible refine (BV.out _ (Lib.hid (SlV.below RB.out (below_drewN K0.out k1))) (Lib.hid (SlV.below RB'.out (below_drewN K0.out k1)))).mono ?_); rintro e w3 ⟨rfl, k2, rfl⟩))
    go_ret
    exact ⟨rfl, by first | exact below_drewN (below_drewN K0.out _) _ | exact below_drewN K0.out _ | exact K0.out⟩
  ·have g5 : (K == K') = false := by rw [beq_eq_false_iff_ne]; exact h0
   clear hT h0
   clear hn hm hn' hm'
   unfold Tn at *
   go_enter Tryz.func22, Tryz.ntmps22
   go_wp2_with (first | (go_at_call 28; (with_reducible refine (BI.out _ (Lib.hid (SlI.keep K0.out RA.out)) (Lib.hid (SlI.keep K0.out RA'.out))).mono ?_); rintro e w2 ⟨rfl, k1, rfl⟩) | (go_at_call 36; (with_reducible refine (BV.out _ (Lib.hid (SlV.below RB.out (below_drewN K0.out k1))) (Lib.hid (SlV.below RB'.out (below_drewN K0.out k1)))).mono ?_); rintro e w3 ⟨rfl, k2, rfl⟩))
   go_ret
   exact ⟨rfl, by first | exact below_drewN (below_drewN K0.out _) _ | exact below_drewN K0.out _ | exact K0.out⟩
end Go.Proofs.YteaaikmejacpaaaGreatDoor.Te

/- Tensors: Same. -/
namespace Go.Proofs.YteaaikmejacpaaaGreatDoor.Te
open Go.ChangeShapes Go.WideShapes Go.ChangeAt Go.RowKit
open Fx Va Sh
set_option maxRecDepth 8000
set_option linter.unusedVariables false
set_option linter.unusedSimpArgs false

set_option maxRecDepth 100000 in
set_option maxHeartbeats 2000000 in
theorem sval (q r : Option Addr) (vs ws : List (Int × Int)) (d e : Nat) (w : World) (hm : vs.length <= maxLen) (hk : ws.length <= maxLen) (RA : Hid (SlV w q vs)) (RB : Hid (SlV w r ws)) :
  Calls Tryz.prog 79 #[.slice q vs.length d, .slice r ws.length e] w fun e w' => e = .returned (.bool (decide (vs = ws))) /\ ∃ k, w' = w.drewN k := by
 unfold maxLen at hm hk
 by_cases hl : vs.length = ws.length
 ·obtain ⟨n, hn⟩ : ∃ n, vs.length = n := ⟨_, rfl⟩
  have hnm : ws.length = n := by omega
  have HN := Lib.hid hn
  have HM := Lib.hid hnm
  rw [hn] at hm ⊢
  rw [hnm]
  clear hn hnm hl hk
  go_enter Tryz.func79, Tryz.ntmps79
  go_wp2
  go_loopw [13] (fun i wr => ∃ k : Nat, i = .int .i64 k /\ k <= n /\ Hid (∀ j, j < k -> vs.getD j (0, 0) = ws.getD j (0, 0)) /\ ∃ m, wr = w.drewN m) (fun i _ => n - (intOf i).toNat)
  case atStart => exact ⟨0, rfl, by omega, Lib.hid fun j hj => by omega, 0, rfl⟩
  case round =>
   obtain ⟨k, rfl, hk, hL, m, rfl⟩ := hrel
   by_cases hlt : k < n
   ·obtain ⟨b, o, rfl, v0, v1⟩ := RA.out k (by rw [HN.out]; exact hlt)
    obtain ⟨b', o', rfl, u0, u1⟩ := RB.out k (by rw [HM.out]; exact hlt)
    obtain ⟨⟨x, x'⟩, hX⟩ : ∃ x, vs.getD k (0, 0) = x := ⟨_, rfl⟩
    obtain ⟨⟨y, y'⟩, hY⟩ : ∃ y, ws.getD k (0, 0) = y := ⟨_, rfl⟩
    rw [hX] at v0 v1
    rw [hY] at u0 u1
    dsimp only at v0 v1 u0 u1
    have HX := Lib.hid hX
    have HY := Lib.hid hY
    have mi : (0 : Int) <= k := by omega
    have mi2 : (k : Int) < n := by omega
    clear hX hY
    by_cases h1 : x = y
    ·by_cases h2 : x' = y'
     ·subst h1 h2
      go_wp2
      go_quiet (fail)
      go_wp2
      go_roundw
      case rel => exact ⟨k + 1, by go_num, by omega, Lib.hid fun j hj => by
       rcases (by omega : j < k \/ j = k) with h | rfl
       ·exact hL.out j h
       ·rw [HX.out, HY.out], m + nq, by first | rfl | rw [World.drewN_drewN]⟩
      case measure => simp [intOf]; omega
     ·subst h1
      have g1 : (x' == y') = false := by simpa using h2
      have H2 := Lib.hid h2
      clear h2
      go_wp2
      go_quiet (fail)
      go_wp2
      go_ret
      refine ⟨?_, m + nq, by first | rfl | rw [World.drewN_drewN]⟩
      refine ret_bool (decide_eq_false fun h => ?_).symm
      have h3 := HX.out
      rw [h, HY.out] at h3
      exact H2.out (congrArg Prod.snd h3).symm
    ·have g1 : (x == y) = false := by simpa using h1
     have H2 := Lib.hid h1
     clear h1
     go_wp2
     go_quiet (fail)
     go_wp2
     go_ret
     refine ⟨?_, m + nq, by first | rfl | rw [World.drewN_drewN]⟩
     refine ret_bool (decide_eq_false fun h => ?_).symm
     have h3 := HX.out
     rw [h, HY.out] at h3
     exact H2.out (congrArg Prod.fst h3).symm
   ·go_wp2
    go_ret
    refine ⟨?_, m, rfl⟩
    refine ret_bool (decide_eq_true ?_).symm
    exact vals_ext HN.out HM.out fun j hj => hL.out j (by omega)
 ·have k1 : ((vs.length : Int) != ws.length) = true := by simp <;> omega
  have k2 : (vs.length != ws.length) = true := by simpa using hl
  have k3 : (vs.length == ws.length) = false := by simpa using hl
  rw [decide_eq_false (fun h => hl (by rw [h]))]
  have HL := Lib.hid hl
  clear hl
  go_enter Tryz.func79, Tryz.ntmps79
  go_wp2
  go_ret
  exact ⟨rfl, 0, rfl⟩

set_option maxRecDepth 100000 in
set_option maxHeartbeats 4000000 in
theorem tsame (K B F R O : Int) (p : Option Addr) (zs : List Int) (c : Nat) (q : Option Addr) (vs : List (Int × Int)) (d : Nat) (K' B' F' R' O' : Int) (p' : Option Addr) (zs' : List Int) (c' : Nat) (q' : Option Addr) (vs' : List (Int × Int)) (d' : Nat) (w : World) (hn : zs.length <= maxLen) (hm : vs.length <= maxLen) (hn' : zs'.length <= maxLen) (hm' : vs'.length <= maxLen) (RA : Hid (SlI w p zs)) (RB : Hid (SlV w q vs)) (RA' : Hid (SlI w p' zs')) (RB' : Hid (SlV w q' vs')) :
  Calls Tryz.prog 44 #[Tn K B F R O p zs.length c q vs.length d, Tn K' B' F' R' O' p' zs'.length c' q' vs'.length d'] w fun e w' => e = .returned (.bool (tyEq K B F R O K' B' F' R' O' && (decide (zs = zs') && decide (vs = vs')))) /\ Below w.heap.size w w' := by
 have BI0 := fun u h1 h2 => c31 p p' zs zs' c c' u hn hn' h1 h2
 have BV0 := fun u h1 h2 => sval q q' vs vs' d d' u hm hm' h1 h2
 have K0 := Lib.hid (((Below.refl w.heap.size w).alloc (Nat.le_refl _) (Obj.cells #[Value.int .i64 K, Value.int .i64 B, Value.int .i64 F, Value.int .i64 R, Value.int .i64 O, Value.slice p zs.length c, Value.slice q vs.length d] 27)).alloc (by simp) (Obj.cells #[Value.int .i64 K', Value.int .i64 B', Value.int .i64 F', Value.int .i64 R', Value.int .i64 O', Value.slice p' zs'.length c', Value.slice q' vs'.length d'] 27))
 by_cases hT : K = K' /\ B = B' /\ F = F' /\ R = R' /\ O = O'
 ·obtain ⟨h1, h2, h3, h4, h5⟩ := hT
  subst h1 h2 h3 h4 h5
  rw [tyEq_same, Bool.true_and]
  by_cases hz : zs = zs'
  ·rw [decide_eq_true hz] at BI0
   by_cases hv : vs = vs'
   ·rw [decide_eq_true hv] at BV0
    rw [decide_eq_true hz, decide_eq_true hv, Bool.true_and]
    have BI := Lib.hid BI0
    have BV := Lib.hid BV0
    clear BI0 BV0 hz hv
    clear hn hm hn' hm'
    unfold Tn at *
    go_enter Tryz.func44, Tryz.ntmps44
    go_wp2_with (first | (go_at_call 60; (with_reducible refine (BI.out _ (Lib.hid (SlI.keep K0.out RA.out)) (Lib.hid (SlI.keep K0.out RA'.out))).mono ?_); rintro e w2 ⟨rfl, k1, rfl⟩) | (go_at_call 79; (with_reducible refine (BV.out _ (Lib.hid (SlV.below RB.out (below_drewN K0.out k1))) (Lib.hid (SlV.below RB'.out (below_drewN K0.out k1)))).mono ?_); rintro e w3 ⟨rfl, k2, rfl⟩))
    go_ret
    exact ⟨rfl, by first | exact below_drewN (below_drewN K0.out _) _ | exact below_drewN K0.out _ | exact K0.out⟩
   ·rw [decide_eq_false hv] at BV0
    rw [decide_eq_true hz, decide_eq_false hv, Bool.true_and]
    have BI := Lib.hid BI0
    have BV := Lib.hid BV0
    clear BI0 BV0 hz hv
    clear hn hm hn' hm'
    unfold Tn at *
    go_enter Tryz.func44, Tryz.ntmps44
    go_wp2_with (first | (go_at_call 60; (with_reducible refine (BI.out _ (Lib.hid (SlI.keep K0.out RA.out)) (Lib.hid (SlI.keep K0.out RA'.out))).mono ?_); rintro e w2 ⟨rfl, k1, rfl⟩) | (go_at_call 79; (with_reducible refine (BV.out _ (Lib.hid (SlV.below RB.out (below_drewN K0.out k1))) (Lib.hid (SlV.below RB'.out (below_drewN K0.out k1)))).mono ?_); rintro e w3 ⟨rfl, k2, rfl⟩))
    go_ret
    exact ⟨rfl, by first | exact below_drewN (below_drewN K0.out _) _ | exact below_drewN K0.out _ | exact K0.out⟩
  ·rw [decide_eq_false hz] at BI0
   rw [decide_eq_false hz, Bool.false_and]
   have BI := Lib.hid BI0
   have BV := Lib.hid BV0
   clear BI0 BV0 hz
   clear hn hm hn' hm'
   unfold Tn at *
   go_enter Tryz.func44, Tryz.ntmps44
   go_wp2_with (first | (go_at_call 60; (with_reducible refine (BI.out _ (Lib.hid (SlI.keep K0.out RA.out)) (Lib.hid (SlI.keep K0.out RA'.out))).mono ?_); rintro e w2 ⟨rfl, k1, rfl⟩) | (go_at_call 79; (with_reducible refine (BV.out _ (Lib.hid (SlV.below RB.out (below_drewN K0.out k1))) (Lib.hid (SlV.below RB'.out (below_drewN K0.out k1)))).mono ?_); rintro e w3 ⟨rfl, k2, rfl⟩))
   go_ret
   exact ⟨rfl, by first | exact below_drewN (below_drewN K0.out _) _ | exact below_drewN K0.out _ | exact K0.out⟩
 ·rw [tyEq_no hT, Bool.false_and]
  have BI := Lib.hid BI0
  have BV := Lib.hid BV0
  clear BI0 BV0
  by_cases h0 : K = K'
  ·subst h0
   by_cases h1 : B = B'
   ·subst h1
    by_cases h2 : F = F'
    ·subst h2
     by_cases h3 : R = R'
     ·subst h3
      have g5 : (O == O') = false := by rw [beq_eq_false_iff_ne]; exact fun h => hT ⟨rfl, rfl, rfl, rfl, h⟩
      clear hT
      clear hn hm hn' hm'
      unfold Tn at *
      go_enter Tryz.func44, Tryz.ntmps44
      go_wp2_with (first | (go_at_call 60; (with_reducible refine (BI.out _ (Lib.hid (SlI.keep K0.out RA.out)) (Lib.hid (SlI.keep K0.out RA'.out))).mono ?_); rintro e w2 ⟨rfl, k1, rfl⟩) | (go_at_call 79; (with_reducible refine (BV.out _ (Lib.hid (SlV.below RB.out (below_drewN K0.out k1))) (Lib.hid (SlV.below RB'.out (below_drewN K0.out k1)))).mono ?_); rintro e w3 ⟨rfl, k2, rfl⟩))
      go_ret
      exact ⟨rfl, by first | exact below_drewN (below_drewN K0.out _) _ | exact below_drewN K0.out _ | exact K0.out⟩
     ·have g5 : (R == R') = false := by rw [beq_eq_false_iff_ne]; exact h3
      clear hT h3
      clear hn hm hn' hm'
      unfold Tn at *
      go_enter Tryz.func44, Tryz.ntmps44
      go_wp2_with (first | (go_at_call 60; (with_reducible refine (BI.out _ (Lib.hid (SlI.keep K0.out RA.out)) (Lib.hid (SlI.keep K0.out RA'.out))).mono ?_); rintro e w2 ⟨rfl, k1, rfl⟩) | (go_at_call 79; (with_reducible refine (BV.out _ (Lib.hid (SlV.below RB.out (below_drewN K0.out k1))) (Lib.hid (SlV.below RB'.out (below_drewN K0.out k1)))).mono ?_); rintro e w3 ⟨rfl, k2, rfl⟩))
      go_ret
      exact ⟨rfl, by first | exact below_drewN (below_drewN K0.out _) _ | exact below_drewN K0.out _ | exact K0.out⟩
    ·have g5 : (F == F') = false := by rw [beq_eq_false_iff_ne]; exact h2
     clear hT h2
     clear hn hm hn' hm'
     unfold Tn at *
     go_enter Tryz.func44, Tryz.ntmps44
     go_wp2_with (first | (go_at_call 60; (with_reducible refine (BI.out _ (Lib.hid (SlI.keep K0.out RA.out)) (Lib.hid (SlI.keep K0.out RA'.out))).mono ?_); rintro e w2 ⟨rfl, k1, rfl⟩) | (go_at_call 79; (with_reducible refine (BV.out _ (Lib.hid (SlV.below RB.out (below_drewN K0.out k1))) (Lib.hid (SlV.below RB'.out (below_drewN K0.out k1)))).mono ?_); rintro e w3 ⟨rfl, k2, rfl⟩))
     go_ret
     exact ⟨rfl, by first | exact below_drewN (below_drewN K0.out _) _ | exact below_drewN K0.out _ | exact K0.out⟩
   ·have g5 : (B == B') = false := by rw [beq_eq_false_iff_ne]; exact h1
    clear hT h1
    clear hn hm hn' hm'
    unfold Tn at *
    go_enter Tryz.func44, Tryz.ntmps44
    go_wp2_with (first | (go_at_call 60; (with_reducible refine (BI.out _ (Lib.hid (SlI.keep K0.out RA.out)) (Lib.hid (SlI.keep K0.out RA'.out))).mono ?_); rintro e w2 ⟨rfl, k1, rfl⟩) | (go_at_call 79; (with_reducible refine (BV.out _ (Lib.hid (SlV.below RB.out (below_drewN K0.out k1))) (Lib.hid (SlV.below RB'.out (below_drewN K0.out k1)))).mono ?_); rintro e w3 ⟨rfl, k2, rfl⟩))
    go_ret
    exact ⟨rfl, by first | exact below_drewN (below_drewN K0.out _) _ | exact below_drewN K0.out _ | exact K0.out⟩
  ·have g5 : (K == K') = false := by rw [beq_eq_false_iff_ne]; exact h0
   clear hT h0
   clear hn hm hn' hm'
   unfold Tn at *
   go_enter Tryz.func44, Tryz.ntmps44
   go_wp2_with (first | (go_at_call 60; (with_reducible refine (BI.out _ (Lib.hid (SlI.keep K0.out RA.out)) (Lib.hid (SlI.keep K0.out RA'.out))).mono ?_); rintro e w2 ⟨rfl, k1, rfl⟩) | (go_at_call 79; (with_reducible refine (BV.out _ (Lib.hid (SlV.below RB.out (below_drewN K0.out k1))) (Lib.hid (SlV.below RB'.out (below_drewN K0.out k1)))).mono ?_); rintro e w3 ⟨rfl, k2, rfl⟩))
   go_ret
   exact ⟨rfl, by first | exact below_drewN (below_drewN K0.out _) _ | exact below_drewN K0.out _ | exact K0.out⟩
end Go.Proofs.YteaaikmejacpaaaGreatDoor.Te

/- Values: their texts, of the reference. -/
namespace Go.Proofs.YteaaikmejacpaaaGreatDoor.Te
open Go.ChangeShapes Go.WideShapes Go.ChangeAt Go.RowKit
open Fr Fx Va
set_option maxRecDepth 8000
set_option linter.unusedVariables false
set_option linter.unusedSimpArgs false

set_option maxHeartbeats 4000000 in
theorem r_vfm (K B F R O n d : Int) (w : World) : Calls Tryz.prog 107 #[T5 K B F R O, V2 n d] w (Ret (.string ⟨(vfm K B F R O n d).toArray⟩) w) := by
 have VA := Lib.hid fun w => r_va K B F R O n d w
 cases hv : vv K B F R O n d
 ·rw [show vfm K B F R O n d = [] by unfold vfm; rw [if_pos hv]]
  rw [hv] at VA
  clear hv
  go_enter Tryz.func107, Tryz.ntmps107
  go_wp2_with (first | (go_at_call 115; (with_reducible refine (VA.out _).mono ?_); rintro e w1 ⟨rfl, hb1⟩; have hc1 := (Rg.bcell hb1).1; have hf1 := (Rg.bcell hb1).2; have z1_0 : w.heap.size < w1.heap.size := (by have hzz := hb1.size; (try simp at hzz); omega); have z1_1 : w.heap.size + 1 < w1.heap.size := (by have hzz := hb1.size; (try simp at hzz); omega); have K1 : Below w.heap.size w w1 := Below.trans (b := _) (by (repeat' (first | (with_reducible exact Below.refl _ _) | (with_reducible refine Below.alloc ?_ ?_ _) | (with_reducible refine Below.setCell ?_ ?_ _) | (with_reducible refine below_drewN ?_ _) | (simp; done) | omega | (simp; omega)))) (hb1.mono (by have hzz := hb1.size; (try simp at hzz); first | omega | (simp; done) | (simp; omega)))))
  go_ret
  exact ⟨rfl, K1⟩
 ·rw [show vfm K B F R O n d = Tx.fmv (rat K F n d).1 (rat K F n d).2 by unfold vfm; rw [if_neg (by rw [hv]; decide)]]
  rw [hv] at VA
  have RA := Lib.hid fun w => r_value K B F R O n d w hv
  have FM := Lib.hid fun w => Tx.r_fmt (rat K F n d).1 (rat K F n d).2 w
  clear hv
  generalize (⟨(Tx.fmv (rat K F n d).1 (rat K F n d).2).toArray⟩ : ByteArray) = s at *
  generalize (rat K F n d).1 = x at *
  generalize (rat K F n d).2 = y at *
  go_enter Tryz.func107, Tryz.ntmps107
  go_wp2_with (first | (go_at_call 115; (with_reducible refine (VA.out _).mono ?_); rintro e w1 ⟨rfl, hb1⟩; have hc1 := (Rg.bcell hb1).1; have hf1 := (Rg.bcell hb1).2; have z1_0 : w.heap.size < w1.heap.size := (by have hzz := hb1.size; (try simp at hzz); omega); have z1_1 : w.heap.size + 1 < w1.heap.size := (by have hzz := hb1.size; (try simp at hzz); omega); have K1 : Below w.heap.size w w1 := Below.trans (b := _) (by (repeat' (first | (with_reducible exact Below.refl _ _) | (with_reducible refine Below.alloc ?_ ?_ _) | (with_reducible refine Below.setCell ?_ ?_ _) | (with_reducible refine below_drewN ?_ _) | (simp; done) | omega | (simp; omega)))) (hb1.mono (by have hzz := hb1.size; (try simp at hzz); first | omega | (simp; done) | (simp; omega)))) | (go_at_call 136; (with_reducible refine (RA.out _).mono ?_); rintro e w2 ⟨rfl, hb2⟩; have hc2 := (Rg.bcell hb2).1; have hf2 := (Rg.bcell hb2).2; have z2_0 : w.heap.size < w2.heap.size := (by have hzz := hb2.size; (try simp at hzz); omega); have z2_1 : w.heap.size + 1 < w2.heap.size := (by have hzz := hb2.size; (try simp at hzz); omega); have K2 : Below w.heap.size w w2 := Below.trans (b := _) (by (repeat' (first | (with_reducible exact Below.refl _ _) | (with_reducible exact K1) | (with_reducible exact K1.size) | (with_reducible refine Below.alloc ?_ ?_ _) | (with_reducible refine Below.setCell ?_ ?_ _) | (with_reducible refine below_drewN ?_ _) | (simp; done) | omega | (simp; omega)))) (hb2.mono (by have hzz := hb2.size; (try simp at hzz); first | omega | (simp; done) | (simp; omega)))) | (go_at_call 135; (with_reducible refine (FM.out _).mono ?_); rintro e w3 ⟨rfl, hb3⟩; have hc3 := (Rg.bcell hb3).1; have hf3 := (Rg.bcell hb3).2; have z3_0 : w.heap.size < w3.heap.size := (by have hzz := hb3.size; (try simp at hzz); omega); have z3_1 : w.heap.size + 1 < w3.heap.size := (by have hzz := hb3.size; (try simp at hzz); omega); have K3 : Below w.heap.size w w3 := Below.trans (b := _) (by (repeat' (first | (with_reducible exact Below.refl _ _) | (with_reducible exact K1) | (with_reducible exact K1.size) | (with_reducible exact K2) | (with_reducible exact K2.size) | (with_reducible refine Below.alloc ?_ ?_ _) | (with_reducible refine Below.setCell ?_ ?_ _) | (with_reducible refine below_drewN ?_ _) | (simp; done) | omega | (simp; omega)))) (hb3.mono (by have hzz := hb3.size; (try simp at hzz); first | omega | (simp; done) | (simp; omega)))))
  go_ret
  exact ⟨rfl, K3⟩
end Go.Proofs.YteaaikmejacpaaaGreatDoor.Te

/- Tensors: the text of the reference, of a tensor without dimensions. -/
namespace Go.Proofs.YteaaikmejacpaaaGreatDoor.Te
open Go.ChangeShapes Go.WideShapes Go.ChangeAt Go.RowKit
open Fx Va Sh
set_option maxRecDepth 8000
set_option linter.unusedVariables false
set_option linter.unusedSimpArgs false

set_option maxRecDepth 100000 in
set_option maxHeartbeats 2000000 in
theorem rt_nil (K B F R O : Int) (p : Option Addr) (l c : Nat) (q : Option Addr) (vs : List (Int × Int)) (d : Nat) (pd : Option Addr) (cd a : Nat) (w : World) (ha : a < vs.length) (hm : vs.length <= 5000) (RB : Hid (SlV w q vs)) :
  Calls Tryz.prog 78 #[.agg #[.int .i64 K, .int .i64 B, .int .i64 F, .int .i64 R, .int .i64 O, .slice p l c, .slice q vs.length d], .slice pd 0 cd, .int .i64 a] w fun e w' => e = .returned (.string ⟨(vfm K B F R O (vs.getD a (0, 0)).1 (vs.getD a (0, 0)).2).toArray⟩) /\ Below w.heap.size w w' := by
 obtain ⟨vb, vo, rfl, v0, v1⟩ := RB.out a ha
 obtain ⟨⟨x, y⟩, hxy⟩ : ∃ r, vs.getD a (0, 0) = r := ⟨_, rfl⟩
 rw [hxy] at v0 v1 ⊢
 dsimp only at v0 v1 ⊢
 have FM0 := fun w => r_vfm K B F R O x y w
 obtain ⟨Y, hY⟩ : ∃ Y : ByteArray, ⟨(vfm K B F R O x y).toArray⟩ = Y := ⟨_, rfl⟩
 rw [hY] at FM0 ⊢
 have FM := Lib.hid FM0
 obtain ⟨m, hmm⟩ : ∃ m, vs.length = m := ⟨_, rfl⟩
 rw [hmm] at ha hm ⊢
 have a0 : (0 : Int) <= a := by omega
 have a1 : (a : Int) < m := by omega
 have hvb : vb < w.heap.size := World.block_lt_of_cell? _ _ v0
 have KB0 := Lib.hid ((Below.refl w.heap.size w).alloc (Nat.le_refl _) (Obj.cells #[Value.int .i64 K, Value.int .i64 B, Value.int .i64 F, Value.int .i64 R, Value.int .i64 O, Value.slice p l c, Value.slice (some ⟨vb, vo, none⟩) m d] 27))
 replace v0 := Rg.keep KB0.out hvb v0
 replace v1 := Rg.keep KB0.out hvb v1
 have c0 : (w.alloc (Obj.cells #[Value.int .i64 K, Value.int .i64 B, Value.int .i64 F, Value.int .i64 R, Value.int .i64 O, Value.slice p l c, Value.slice (some ⟨vb, vo, none⟩) m d] 27)).cell? ⟨w.heap.size, 0, none⟩ = some (.int .i64 K) := by go_cell
 have c1 : (w.alloc (Obj.cells #[Value.int .i64 K, Value.int .i64 B, Value.int .i64 F, Value.int .i64 R, Value.int .i64 O, Value.slice p l c, Value.slice (some ⟨vb, vo, none⟩) m d] 27)).cell? ⟨w.heap.size, 1, none⟩ = some (.int .i64 B) := by go_cell
 have c2 : (w.alloc (Obj.cells #[Value.int .i64 K, Value.int .i64 B, Value.int .i64 F, Value.int .i64 R, Value.int .i64 O, Value.slice p l c, Value.slice (some ⟨vb, vo, none⟩) m d] 27)).cell? ⟨w.heap.size, 2, none⟩ = some (.int .i64 F) := by go_cell
 have c3 : (w.alloc (Obj.cells #[Value.int .i64 K, Value.int .i64 B, Value.int .i64 F, Value.int .i64 R, Value.int .i64 O, Value.slice p l c, Value.slice (some ⟨vb, vo, none⟩) m d] 27)).cell? ⟨w.heap.size, 3, none⟩ = some (.int .i64 R) := by go_cell
 have c4 : (w.alloc (Obj.cells #[Value.int .i64 K, Value.int .i64 B, Value.int .i64 F, Value.int .i64 R, Value.int .i64 O, Value.slice p l c, Value.slice (some ⟨vb, vo, none⟩) m d] 27)).cell? ⟨w.heap.size, 4, none⟩ = some (.int .i64 O) := by go_cell
 have c5 : (w.alloc (Obj.cells #[Value.int .i64 K, Value.int .i64 B, Value.int .i64 F, Value.int .i64 R, Value.int .i64 O, Value.slice p l c, Value.slice (some ⟨vb, vo, none⟩) m d] 27)).cell? ⟨w.heap.size, 5, none⟩ = some (.slice p l c) := by go_cell
 have c6 : (w.alloc (Obj.cells #[Value.int .i64 K, Value.int .i64 B, Value.int .i64 F, Value.int .i64 R, Value.int .i64 O, Value.slice p l c, Value.slice (some ⟨vb, vo, none⟩) m d] 27)).cell? ⟨w.heap.size, 6, none⟩ = some (.slice (some ⟨vb, vo, none⟩) m d) := by go_cell
 clear hmm hxy hY FM0 RB
 go_enter Tryz.func78, Tryz.ntmps78
 go_upto_region 2 with fail
 generalize (w.alloc (Obj.cells #[Value.int .i64 K, Value.int .i64 B, Value.int .i64 F, Value.int .i64 R, Value.int .i64 O, Value.slice p l c, Value.slice (some ⟨vb, vo, none⟩) m d] 27)) = wb at *
 have HS : Hid (∀ u u' : World, (u.cell? ⟨w.heap.size, 0, none⟩ = some (.int .i64 K) /\ u.cell? ⟨w.heap.size, 1, none⟩ = some (.int .i64 B) /\ u.cell? ⟨w.heap.size, 2, none⟩ = some (.int .i64 F) /\ u.cell? ⟨w.heap.size, 3, none⟩ = some (.int .i64 R) /\ u.cell? ⟨w.heap.size, 4, none⟩ = some (.int .i64 O) /\ u.cell? ⟨w.heap.size, 6, none⟩ = some (.slice (some ⟨vb, vo, none⟩) m d) /\ u.cell? ⟨vb, vo + a * 2, none⟩ = some (.int .i64 x) /\ u.cell? ⟨vb, vo + a * 2 + 1, none⟩ = some (.int .i64 y) /\ Below wb.heap.size wb u) -> Below u.heap.size u u' -> (u'.cell? ⟨w.heap.size, 0, none⟩ = some (.int .i64 K) /\ u'.cell? ⟨w.heap.size, 1, none⟩ = some (.int .i64 B) /\ u'.cell? ⟨w.heap.size, 2, none⟩ = some (.int .i64 F) /\ u'.cell? ⟨w.heap.size, 3, none⟩ = some (.int .i64 R) /\ u'.cell? ⟨w.heap.size, 4, none⟩ = some (.int .i64 O) /\ u'.cell? ⟨w.heap.size, 6, none⟩ = some (.slice (some ⟨vb, vo, none⟩) m d) /\ u'.cell? ⟨vb, vo + a * 2, none⟩ = some (.int .i64 x) /\ u'.cell? ⟨vb, vo + a * 2 + 1, none⟩ = some (.int .i64 y) /\ Below wb.heap.size wb u')) := Lib.hid (fun u u' h hb => ⟨Rg.keep hb (World.block_lt_of_cell? _ _ h.1) h.1, Rg.keep hb (World.block_lt_of_cell? _ _ h.2.1) h.2.1, Rg.keep hb (World.block_lt_of_cell? _ _ h.2.2.1) h.2.2.1, Rg.keep hb (World.block_lt_of_cell? _ _ h.2.2.2.1) h.2.2.2.1, Rg.keep hb (World.block_lt_of_cell? _ _ h.2.2.2.2.1) h.2.2.2.2.1, Rg.keep hb (World.block_lt_of_cell? _ _ h.2.2.2.2.2.1) h.2.2.2.2.2.1, Rg.keep hb (World.block_lt_of_cell? _ _ h.2.2.2.2.2.2.1) h.2.2.2.2.2.2.1, Rg.keep hb (World.block_lt_of_cell? _ _ h.2.2.2.2.2.2.2.1) h.2.2.2.2.2.2.2.1, h.2.2.2.2.2.2.2.2.trans (hb.mono h.2.2.2.2.2.2.2.2.size)⟩)
 refine Rk.begin (S := fun wS => wS.cell? ⟨w.heap.size, 0, none⟩ = some (.int .i64 K) /\ wS.cell? ⟨w.heap.size, 1, none⟩ = some (.int .i64 B) /\ wS.cell? ⟨w.heap.size, 2, none⟩ = some (.int .i64 F) /\ wS.cell? ⟨w.heap.size, 3, none⟩ = some (.int .i64 R) /\ wS.cell? ⟨w.heap.size, 4, none⟩ = some (.int .i64 O) /\ wS.cell? ⟨w.heap.size, 6, none⟩ = some (.slice (some ⟨vb, vo, none⟩) m d) /\ wS.cell? ⟨vb, vo + a * 2, none⟩ = some (.int .i64 x) /\ wS.cell? ⟨vb, vo + a * 2 + 1, none⟩ = some (.int .i64 y) /\ Below wb.heap.size wb wS) 8 (by kernel_rfl) ⟨c0, c1, c2, c3, c4, c6, v0, v1, Below.drew (Below.refl _ _)⟩ (fun hHeld => ?_)
 refine Rk.takeP (i := 0) (v := ?_) rfl (by kernel_rfl) (by kernel_rfl) (by kernel_rfl) (by kernel_rfl) (fun _ _ _ h => h) (Or.inl ⟨by kernel_rfl, ?_⟩) (by assumption) ?_
 rotate_left
 ·((intro w hSw; go_simp) <;> with_reducible rfl)
 try simp only [Act.put, List.setIfInBounds_toArray, List.set_cons_zero, List.set_cons_succ]
 refine Rk.take [8] (i := 1) (v := ?_) rfl (by kernel_rfl) (by kernel_rfl) (by kernel_rfl) (by kernel_rfl) (by kernel_rfl) (fun _ _ _ h => h) (Or.inl ⟨by kernel_rfl, ?_⟩) (by assumption) ?_
 rotate_left
 ·((intro w hSw; (try dsimp only at hSw); go_simp) <;> with_reducible rfl)
 try simp only [Act.put, List.setIfInBounds_toArray, List.set_cons_zero, List.set_cons_succ]
 refine Rk.takeP (i := 2) (v := ?_) rfl (by kernel_rfl) (by kernel_rfl) (by kernel_rfl) (by kernel_rfl) (fun _ _ _ h => h) (Or.inl ⟨by kernel_rfl, ?_⟩) (by assumption) ?_
 rotate_left
 ·((intro w hSw; go_simp) <;> with_reducible rfl)
 try simp only [Act.put, List.setIfInBounds_toArray, List.set_cons_zero, List.set_cons_succ]
 refine Rk.take [8] (i := 3) (v := ?_) rfl (by kernel_rfl) (by kernel_rfl) (by kernel_rfl) (by kernel_rfl) (by kernel_rfl) (fun _ _ _ h => h) (Or.inl ⟨by kernel_rfl, ?_⟩) (by assumption) ?_
 rotate_left
 ·((intro w hSw; (try dsimp only at hSw); go_simp) <;> with_reducible rfl)
 try simp only [Act.put, List.setIfInBounds_toArray, List.set_cons_zero, List.set_cons_succ]
 refine Rk.takeP (i := 4) (v := ?_) rfl (by kernel_rfl) (by kernel_rfl) (by kernel_rfl) (by kernel_rfl) (fun _ _ _ h => h) (Or.inl ⟨by kernel_rfl, ?_⟩) (by assumption) ?_
 rotate_left
 ·((intro w hSw; go_simp) <;> with_reducible rfl)
 try simp only [Act.put, List.setIfInBounds_toArray, List.set_cons_zero, List.set_cons_succ]
 refine Rk.takeP (i := 5) (v := ?_) rfl (by kernel_rfl) (by kernel_rfl) (by kernel_rfl) (by kernel_rfl) (fun _ _ _ h => h) (Or.inl ⟨by kernel_rfl, ?_⟩) (by assumption) ?_
 rotate_left
 ·((intro w hSw; go_simp) <;> with_reducible rfl)
 try simp only [Act.put, List.setIfInBounds_toArray, List.set_cons_zero, List.set_cons_succ]
 refine Rk.take [8] (i := 6) (v := ?_) rfl (by kernel_rfl) (by kernel_rfl) (by kernel_rfl) (by kernel_rfl) (by kernel_rfl) (fun _ _ _ h => h) (Or.inl ⟨by kernel_rfl, ?_⟩) (by assumption) ?_
 rotate_left
 ·((intro w hSw; (try dsimp only at hSw); go_simp) <;> with_reducible rfl)
 try simp only [Act.put, List.setIfInBounds_toArray, List.set_cons_zero, List.set_cons_succ]
 refine Rk.one (i := 7) (by kernel_rfl) rfl (fun KK hK => ?_)
 rw [if_pos (by kernel_rfl)]
 go_simp
 ((with_reducible refine (FM.out _).mono ?_); rintro e u ⟨rfl, hb⟩)
 first | (refine hK.out _ _ (fun _ => HS.out _ _ hHeld hb) (fun hHeld => ?_)) | (refine hK.out _ _ (HS.out _ _ hHeld hb) (fun hHeld => ?_)) | (go_wp2_with fail; refine hK.out _ _ (HS.out _ _ hHeld hb) (fun hHeld => ?_))
 clear hK KK
 refine Rk.tail [8] [_] (by kernel_rfl) (by kernel_rfl) rfl (by decide) ?_
 have KE := Lib.hid (KB0.out.trans (hHeld.2.2.2.2.2.2.2.2.mono KB0.out.size))
 clear hHeld HS c0 c1 c2 c3 c4 c5 c6 v0 v1
 go_wp2_with fail
 go_ret
 exact ⟨rfl, KE.out⟩
end Go.Proofs.YteaaikmejacpaaaGreatDoor.Te

/- Tensors: the text of the reference, with dimensions. -/
namespace Go.Proofs.YteaaikmejacpaaaGreatDoor.Te
open Go.ChangeShapes Go.WideShapes Go.ChangeAt Go.RowKit
open Fx Va Sh
set_option maxRecDepth 8000
set_option linter.unusedVariables false
set_option linter.unusedSimpArgs false

theorem dropTake {α : Type} (l : List α) (a b s n : Nat) (h : b + s <= n) : (((l.drop a).take n).drop b).take s = (l.drop (a + b)).take s := by
 rw [List.drop_take, List.drop_drop, List.take_take, Nat.min_eq_left (by omega)]
theorem txt_nums {a i s y N : Nat} (hi : i < y) (hs : 1 <= s) (h : a + y * s <= N) (hN : N <= 5000) : ∃ x1 x2 : Nat, i * s = x1 /\ a + x1 = x2 /\ ((i : Int) * (s : Int)) = (x1 : Int) /\ ((a : Int) + (x1 : Int)) = (x2 : Int) /\ IntKind.i64.wrap (x1 : Int) = (x1 : Int) /\ IntKind.i64.wrap (x2 : Int) = (x2 : Int) /\ x1 + s <= y * s /\ x2 + s <= N := by
 have h1 : (i + 1) * s <= y * s := Nat.mul_le_mul_right _ hi
 rw [Nat.add_mul, Nat.one_mul] at h1
 obtain ⟨x1, hx⟩ : ∃ x, i * s = x := ⟨_, rfl⟩
 rw [hx] at h1
 refine ⟨x1, a + x1, hx, rfl, by rw [<- hx]; push_cast; rfl, by push_cast; rfl, by rw [IntKind.wrap_i64]; omega, by rw [IntKind.wrap_i64]; push_cast; omega, h1, by omega⟩

set_option maxRecDepth 100000 in
set_option maxHeartbeats 4000000 in
theorem rt_cons (K B F R O : Int) (p : Option Addr) (l c : Nat) (q : Option Addr) (vs : List (Int × Int)) (d : Nat) (z : Int) (zt : List Int) (pd : Option Addr) (n cd a : Nat) (w : World) (hn : (z :: zt).length = n) (hv : vE (z :: zt) = 0) (ha : (a : Int) + sp (z :: zt) <= vs.length) (hm : vs.length <= 5000) (hcd : n <= cd) (hcd2 : cd <= 9223372036854775807) (PD : Hid (SlI w pd (z :: zt))) (RB : Hid (SlV w q vs))
  (IH : ∀ (pd' : Option Addr) (cd' a' : Nat) (u : World), (a' : Int) + sp zt <= vs.length -> zt.length <= cd' -> cd' <= 9223372036854775807 -> Hid (SlI u pd' zt) -> Hid (SlV u q vs) -> Calls Tryz.prog 78 #[.agg #[.int .i64 K, .int .i64 B, .int .i64 F, .int .i64 R, .int .i64 O, .slice p l c, .slice q vs.length d], .slice pd' zt.length cd', .int .i64 a'] u fun e u' => e = .returned (.string ⟨(wtx K B F R O zt ((vs.drop a').take (sp zt).toNat)).toArray⟩) /\ Below u.heap.size u u') :
  Calls Tryz.prog 78 #[.agg #[.int .i64 K, .int .i64 B, .int .i64 F, .int .i64 R, .int .i64 O, .slice p l c, .slice q vs.length d], .slice pd n cd, .int .i64 a] w fun e w' => e = .returned (.string ⟨(wtx K B F R O (z :: zt) ((vs.drop a).take (sp (z :: zt)).toNat)).toArray⟩) /\ Below w.heap.size w w' := by
 obtain ⟨h6, hlow, -, hsp, hdd⟩ := valid_of hv
 have hzp := pos_of hlow (k := 0) (by simp)
 have hz0 : (z :: zt).getD 0 0 = z := rfl
 rw [hz0] at hzp
 have hs1 := (hdd 1).1
 rw [List.drop_succ_cons, List.drop_zero] at hs1
 have hvt : vE zt = 0 := vE_drop hv 1
 have hlt : zt.any low = false := (valid_of hvt).2.1
 have hspz : sp (z :: zt) = z * sp zt := by simp [sp, Int.mul_comm]
 obtain ⟨y, rfl⟩ : ∃ y : Nat, z = y := ⟨z.toNat, by omega⟩
 obtain ⟨s, hs⟩ : ∃ s : Nat, sp zt = s := ⟨(sp zt).toNat, by omega⟩
 have hys : sp ((y : Int) :: zt) = ((y * s : Nat) : Int) := by rw [hspz, hs]; push_cast; rfl
 have hnt : zt.length = n - 1 := by rw [<- hn]; simp
 have hn0 : 0 < n := by rw [<- hn]; simp
 obtain ⟨pb, po, hpp, z9⟩ := PD.out 0 (by simp)
 subst hpp
 rw [Nat.add_zero, hz0] at z9
 have hpb : pb < w.heap.size := World.block_lt_of_cell? _ _ z9
 have hwx : wtx K B F R O ((y : Int) :: zt) ((vs.drop a).take (sp ((y : Int) :: zt)).toNat) = 91 :: (wtj (fun i => wtx K B F R O zt ((((vs.drop a).take (y * s)).drop (i * s)).take s)) y ++ [93]) := by rw [wtx_cons, hys, hs]; rfl
 rw [hwx]
 have hlw := wtx_len K B F R O ((y : Int) :: zt) ((vs.drop a).take (sp ((y : Int) :: zt)).toNat) hlow
 rw [hwx] at hlw
 have hl4 : (64 + 4 * ((y : Int) :: zt).length) * (sp ((y : Int) :: zt)).toNat <= 100 * 4096 := Nat.mul_le_mul (by rw [hn] at h6 ⊢; omega) (by omega)
 obtain ⟨ZZ, hZZ⟩ : ∃ Z, (64 + 4 * ((y : Int) :: zt).length) * (sp ((y : Int) :: zt)).toNat = Z := ⟨_, rfl⟩
 rw [hZZ] at hlw hl4
 clear hZZ
 obtain ⟨f, hf⟩ : ∃ f, (fun i => wtx K B F R O zt ((((vs.drop a).take (y * s)).drop (i * s)).take s)) = f := ⟨_, rfl⟩
 rw [hf] at hlw ⊢
 have HF : Hid (∀ i, i < y -> wtx K B F R O zt ((vs.drop (a + i * s)).take s) = f i) := Lib.hid fun i hi => by
  rw [<- congrFun hf i, dropTake]
  have := Nat.mul_le_mul_right s hi
  rw [Nat.succ_mul] at this
  exact this
 have HLJ : Hid (∀ i, i <= y -> (91 :: wtj f i).length + 1 <= 409600) := Lib.hid fun i hi => by
  have := wtj_le (f := f) (n := y) i hi
  simp only [List.length_cons, List.length_append, List.length_nil] at hlw ⊢
  omega
 have hasum : a + y * s <= vs.length := by rw [hys] at ha; omega
 have hy4 : y <= 4096 := by
  have := Nat.le_mul_of_pos_right y (show 0 < s by omega)
  rw [hys] at hsp
  omega
 have hs2 : 1 <= s := by omega
 have HZT : Hid (∀ u, Below w.heap.size w u -> SlI u (if cd = 1 then some ⟨pb, po, none⟩ else some ⟨pb, po + 1, none⟩) zt) := Lib.hid fun u h => by
  have h1 := SlI.keep h PD.out
  by_cases e : cd = 1
  ·exact SlI.empty (by rw [hnt]; omega)
  ·rw [if_neg e]
   exact SlI.drop h1 1
 have SZ0 := fun u h => rsize (if cd = 1 then some ⟨pb, po, none⟩ else some ⟨pb, po + 1, none⟩) zt (cd - 1) u h hvt
 rw [hs, hnt] at SZ0
 have IH0 := fun a' u (h : a' + s <= vs.length) h4 h5 => IH (if cd = 1 then some ⟨pb, po, none⟩ else some ⟨pb, po + 1, none⟩) (cd - 1) a' u (by rw [hs]; omega) (by omega) (by omega) h4 h5
 rw [hs, Int.toNat_natCast, hnt] at IH0
 obtain ⟨m, hmm⟩ : ∃ m, vs.length = m := ⟨_, rfl⟩
 rw [hmm] at IH0 hasum hm ⊢
 have SZ := Lib.hid SZ0
 have HIH := Lib.hid IH0
 have HAS := Lib.hid hasum
 have g0 : (0 : Int) < n := by omega
 have gn0 : ((n : Int) == 0) = false := by simp; omega
 have gn1 : (n == 0) = false := by simp; omega
 have k9 : (1 : Int) <= n := by omega
 have k10 : (n : Int) <= cd := by omega
 have T0 : Hid (B7 (w.alloc (Obj.cells #[Value.int .i64 K, Value.int .i64 B, Value.int .i64 F, Value.int .i64 R, Value.int .i64 O, Value.slice p l c, Value.slice q m d] 27)) (w.heap.size) (.int .i64 K) (.int .i64 B) (.int .i64 F) (.int .i64 R) (.int .i64 O) (.slice p l c) (.slice q m d)) := Lib.hid (B7.new w _ (.int .i64 K) (.int .i64 B) (.int .i64 F) (.int .i64 R) (.int .i64 O) (.slice p l c) (.slice q m d))
 have K0 := Lib.hid ((Below.refl w.heap.size w).alloc (Nat.le_refl _) (Obj.cells #[Value.int .i64 K, Value.int .i64 B, Value.int .i64 F, Value.int .i64 R, Value.int .i64 O, Value.slice p l c, Value.slice q m d] 27))
 have HZ9 := Lib.hid z9
 clear hwx hlw hl4 hf hspz hys hsp hdd hlow hlt hv hvt hs1 hzp hz0 SZ0 IH0 hmm ha hs IH hn h6 z9
 go_enter Tryz.func78, Tryz.ntmps78
 go_wp2_with fail
 go_loopw [7, 8] (fun sv iv wr => ∃ (i : Nat) (X : ByteArray), iv = .int .i64 (i : Int) /\ sv = .string X /\ i <= y /\ Hid (X.data.toList = 91 :: wtj f i) /\ Hid (B7 wr (w.heap.size) (.int .i64 K) (.int .i64 B) (.int .i64 F) (.int .i64 R) (.int .i64 O) (.slice p l c) (.slice q m d)) /\ Hid (Below w.heap.size w wr)) (fun _ iv _ => y - (intOf iv).toNat)
 case atStart => exact ⟨0, _, rfl, rfl, Nat.zero_le _, Lib.hid rfl, T0, K0⟩
 case round =>
  obtain ⟨i, X, rfl, rfl, hi, HX, HT, HK⟩ := hrel
  clear T0 K0
  have z9 := Rg.keep HK.out hpb HZ9.out
  obtain ⟨⟨c0, c1, c2, c3, c4, c5, c6⟩, -⟩ := HT.out
  have hXs : X.size <= 409600 := by
   have h := HLJ.out i hi
   rw [<- HX.out] at h
   have e : X.data.toList.length = X.size := by simp
   omega
  by_cases hiy : i < y
  ·have hi2 : (i : Int) < y := by omega
   have hi0 : (0 : Int) <= i := by omega
   obtain ⟨x1, x2, e1, e2, e3, e4, e5, e6, e7, e8⟩ := txt_nums hiy hs2 HAS.out hm
   have HFI : Hid (wtx K B F R O zt ((vs.drop x2).take s) = f i) := Lib.hid (by rw [<- HF.out i hiy, e1, e2])
   obtain ⟨Y, hY⟩ : ∃ Y : ByteArray, ⟨(f i).toArray⟩ = Y := ⟨_, rfl⟩
   have HY : Hid (Y.data.toList = f i) := Lib.hid (by rw [<- hY])
   have hYs : Y.size <= 409600 := by
    have h := HLJ.out (i + 1) hiy
    have e : Y.data.toList.length = Y.size := by simp
    rw [<- e, HY.out]
    have e9 : wtj f (i + 1) = wtj f i ++ ((if i = 0 then [] else [44, 32]) ++ f i) := rfl
    rw [e9] at h
    simp only [List.length_cons, List.length_append] at h
    omega
   have HIH0 : Hid (∀ u, Below wr.heap.size wr u -> Calls Tryz.prog 78 #[.agg #[.int .i64 K, .int .i64 B, .int .i64 F, .int .i64 R, .int .i64 O, .slice p l c, .slice q m d], .slice (if cd = 1 then some ⟨pb, po, none⟩ else some ⟨pb, po + 1, none⟩) (n - 1) (cd - 1), .int .i64 x2] u fun e u' => e = .returned (.string Y) /\ Below u.heap.size u u') := Lib.hid fun u h => by
    have hb := HK.out.trans (h.mono HK.out.size)
    have h9 := HIH.out x2 u (by omega) (Lib.hid (HZT.out u hb)) (Lib.hid (SlV.below RB.out hb))
    rw [HFI.out, hY] at h9
    exact h9
   have HPD0 : Hid (∀ u, Below wr.heap.size wr u -> SlI u (if cd = 1 then some ⟨pb, po, none⟩ else some ⟨pb, po + 1, none⟩) zt) := Lib.hid fun u h => HZT.out u (HK.out.trans (h.mono HK.out.size))
   clear e1 e2 e7 e8 hY HFI
   rcases Nat.eq_zero_or_pos i with h0 | h0
   ·have p1 : decide ((0 : Int) < (i : Int)) = false := by simp; omega
    have p2 : decide (0 < i) = false := by simp; omega
    have HN : Hid ((X ++ Y).data.toList = 91 :: wtj f (i + 1)) := Lib.hid (by
     show _ = 91 :: (wtj f i ++ ((if i = 0 then [] else [44, 32]) ++ f i))
     rw [if_pos h0, ByteArray.data_append, Array.toList_append, HX.out, HY.out]; rfl)
    clear h0
    go_upto_region 9 with fail
    obtain ⟨wb, hwb⟩ : ∃ wb : World, wb = wr := ⟨wr, rfl⟩
    rw [<- hwb] at HT HK HPD0 HIH0 ⊢
    clear hwb
    obtain ⟨⟨c0, c1, c2, c3, c4, c5, c6⟩, -⟩ := HT.out
    have HPD := HPD0
    have IHI := HIH0
    have HS : Hid (∀ u u' : World, (u.cell? ⟨w.heap.size, 0, none⟩ = some (.int .i64 K) /\ u.cell? ⟨w.heap.size, 1, none⟩ = some (.int .i64 B) /\ u.cell? ⟨w.heap.size, 2, none⟩ = some (.int .i64 F) /\ u.cell? ⟨w.heap.size, 3, none⟩ = some (.int .i64 R) /\ u.cell? ⟨w.heap.size, 4, none⟩ = some (.int .i64 O) /\ u.cell? ⟨w.heap.size, 5, none⟩ = some (.slice p l c) /\ u.cell? ⟨w.heap.size, 6, none⟩ = some (.slice q m d) /\ Below wb.heap.size wb u) -> Below u.heap.size u u' -> (u'.cell? ⟨w.heap.size, 0, none⟩ = some (.int .i64 K) /\ u'.cell? ⟨w.heap.size, 1, none⟩ = some (.int .i64 B) /\ u'.cell? ⟨w.heap.size, 2, none⟩ = some (.int .i64 F) /\ u'.cell? ⟨w.heap.size, 3, none⟩ = some (.int .i64 R) /\ u'.cell? ⟨w.heap.size, 4, none⟩ = some (.int .i64 O) /\ u'.cell? ⟨w.heap.size, 5, none⟩ = some (.slice p l c) /\ u'.cell? ⟨w.heap.size, 6, none⟩ = some (.slice q m d) /\ Below wb.heap.size wb u')) := Lib.hid (fun u u' h hb => ⟨Rg.keep hb (World.block_lt_of_cell? _ _ h.1) h.1, Rg.keep hb (World.block_lt_of_cell? _ _ h.2.1) h.2.1, Rg.keep hb (World.block_lt_of_cell? _ _ h.2.2.1) h.2.2.1, Rg.keep hb (World.block_lt_of_cell? _ _ h.2.2.2.1) h.2.2.2.1, Rg.keep hb (World.block_lt_of_cell? _ _ h.2.2.2.2.1) h.2.2.2.2.1, Rg.keep hb (World.block_lt_of_cell? _ _ h.2.2.2.2.2.1) h.2.2.2.2.2.1, Rg.keep hb (World.block_lt_of_cell? _ _ h.2.2.2.2.2.2.1) h.2.2.2.2.2.2.1, h.2.2.2.2.2.2.2.trans (hb.mono h.2.2.2.2.2.2.2.size)⟩)
    refine Rk.begin (S := fun wS => wS.cell? ⟨w.heap.size, 0, none⟩ = some (.int .i64 K) /\ wS.cell? ⟨w.heap.size, 1, none⟩ = some (.int .i64 B) /\ wS.cell? ⟨w.heap.size, 2, none⟩ = some (.int .i64 F) /\ wS.cell? ⟨w.heap.size, 3, none⟩ = some (.int .i64 R) /\ wS.cell? ⟨w.heap.size, 4, none⟩ = some (.int .i64 O) /\ wS.cell? ⟨w.heap.size, 5, none⟩ = some (.slice p l c) /\ wS.cell? ⟨w.heap.size, 6, none⟩ = some (.slice q m d) /\ Below wb.heap.size wb wS) 12 (by kernel_rfl) ⟨c0, c1, c2, c3, c4, c5, c6, Below.drew (Below.refl _ _)⟩ (fun hHeld => ?_)
    refine Rk.takeP (i := 0) (v := ?_) rfl (by kernel_rfl) (by kernel_rfl) (by kernel_rfl) (by kernel_rfl) (fun _ _ _ h => h) (Or.inl ⟨by kernel_rfl, ?_⟩) (by assumption) ?_
    rotate_left
    ·((intro w hSw; go_simp) <;> with_reducible rfl)
    try simp only [Act.put, List.setIfInBounds_toArray, List.set_cons_zero, List.set_cons_succ]
    refine Rk.take [11, 12] (i := 1) (v := ?_) rfl (by kernel_rfl) (by kernel_rfl) (by kernel_rfl) (by kernel_rfl) (by kernel_rfl) (fun _ _ _ h => h) (Or.inl ⟨by kernel_rfl, ?_⟩) (by assumption) ?_
    rotate_left
    ·((intro w hSw; (try dsimp only at hSw); go_simp) <;> with_reducible rfl)
    try simp only [Act.put, List.setIfInBounds_toArray, List.set_cons_zero, List.set_cons_succ]
    refine Rk.takeP (i := 2) (v := ?_) rfl (by kernel_rfl) (by kernel_rfl) (by kernel_rfl) (by kernel_rfl) (fun _ _ _ h => h) (Or.inl ⟨by kernel_rfl, ?_⟩) (by assumption) ?_
    rotate_left
    ·((intro w hSw; go_simp) <;> with_reducible rfl)
    try simp only [Act.put, List.setIfInBounds_toArray, List.set_cons_zero, List.set_cons_succ]
    refine Rk.takeP (i := 3) (v := ?_) rfl (by kernel_rfl) (by kernel_rfl) (by kernel_rfl) (by kernel_rfl) (fun _ _ _ h => h) (Or.inl ⟨by kernel_rfl, ?_⟩) (by assumption) ?_
    rotate_left
    ·((intro w hSw; go_simp) <;> with_reducible rfl)
    try simp only [Act.put, List.setIfInBounds_toArray, List.set_cons_zero, List.set_cons_succ]
    refine Rk.takeP (i := 4) (v := ?_) rfl (by kernel_rfl) (by kernel_rfl) (by kernel_rfl) (by kernel_rfl) (fun _ _ _ h => h) (Or.inl ⟨by kernel_rfl, ?_⟩) (by assumption) ?_
    rotate_left
    ·((intro w hSw; go_simp) <;> with_reducible rfl)
    try simp only [Act.put, List.setIfInBounds_toArray, List.set_cons_zero, List.set_cons_succ]
    refine Rk.takeP (i := 5) (v := ?_) rfl (by kernel_rfl) (by kernel_rfl) (by kernel_rfl) (by kernel_rfl) (fun _ _ _ h => h) (Or.inl ⟨by kernel_rfl, ?_⟩) (by assumption) ?_
    rotate_left
    ·((intro w hSw; go_simp) <;> with_reducible rfl)
    try simp only [Act.put, List.setIfInBounds_toArray, List.set_cons_zero, List.set_cons_succ]
    refine Rk.takeP (i := 6) (v := ?_) rfl (by kernel_rfl) (by kernel_rfl) (by kernel_rfl) (by kernel_rfl) (fun _ _ _ h => h) (Or.inl ⟨by kernel_rfl, ?_⟩) (by assumption) ?_
    rotate_left
    ·((intro w hSw; go_simp) <;> with_reducible rfl)
    try simp only [Act.put, List.setIfInBounds_toArray, List.set_cons_zero, List.set_cons_succ]
    refine Rk.takeP (i := 7) (v := ?_) rfl (by kernel_rfl) (by kernel_rfl) (by kernel_rfl) (by kernel_rfl) (fun _ _ _ h => h) (Or.inl ⟨by kernel_rfl, ?_⟩) (by assumption) ?_
    rotate_left
    ·((intro w hSw; go_simp) <;> with_reducible rfl)
    try simp only [Act.put, List.setIfInBounds_toArray, List.set_cons_zero, List.set_cons_succ]
    refine Rk.one (i := 8) (by kernel_rfl) rfl (fun KK hK => ?_)
    rw [if_pos (by kernel_rfl)]
    go_simp
    ((with_reducible refine (SZ.out _ (Lib.hid (HPD.out _ (hHeld.2.2.2.2.2.2.2)))).mono ?_); rintro e w9 ⟨rfl, rfl⟩)
    first | (refine hK.out _ _ (fun _ => hHeld) (fun hHeld => ?_)) | (refine hK.out _ _ hHeld (fun hHeld => ?_)) | (go_wp2_with fail; refine hK.out _ _ hHeld (fun hHeld => ?_))
    clear hK KK
    refine Rk.takeP (i := 9) (v := ?_) rfl (by kernel_rfl) (by kernel_rfl) (by kernel_rfl) (by kernel_rfl) (fun _ _ _ h => h) (Or.inl ⟨by kernel_rfl, ?_⟩) (by assumption) ?_
    rotate_left
    ·((intro w hSw; go_simp) <;> with_reducible rfl)
    try simp only [Act.put, List.setIfInBounds_toArray, List.set_cons_zero, List.set_cons_succ]
    refine Rk.takeP (i := 10) (v := ?_) rfl (by kernel_rfl) (by kernel_rfl) (by kernel_rfl) (by kernel_rfl) (fun _ _ _ h => h) (Or.inl ⟨by kernel_rfl, ?_⟩) (by assumption) ?_
    rotate_left
    ·((intro w hSw; go_simp) <;> with_reducible rfl)
    try simp only [Act.put, List.setIfInBounds_toArray, List.set_cons_zero, List.set_cons_succ]
    refine Rk.one (i := 11) (by kernel_rfl) rfl (fun KK hK => ?_)
    rw [if_pos (by kernel_rfl)]
    go_simp
    try rw [e5]
    try rw [e4]
    try rw [e6]
    ((with_reducible refine (IHI.out _ (hHeld.2.2.2.2.2.2.2)).mono ?_); rintro e u ⟨rfl, hb⟩)
    first | (refine hK.out _ _ (fun _ => HS.out _ _ hHeld hb) (fun hHeld => ?_)) | (refine hK.out _ _ (HS.out _ _ hHeld hb) (fun hHeld => ?_)) | (go_wp2_with fail; refine hK.out _ _ (HS.out _ _ hHeld hb) (fun hHeld => ?_))
    clear hK KK
    refine Rk.tail [12, 13] [_, _] (by kernel_rfl) (by kernel_rfl) rfl (by decide) ?_
    have KE := hHeld.2.2.2.2.2.2.2
    have HT2 := Lib.hid (B7.keep KE HT.out.lt HT.out)
    have HK2 := Lib.hid (HK.out.trans (KE.mono HK.out.size))
    clear hHeld HS HPD IHI
    go_wp2_with fail
    go_roundw
    case rel => exact ⟨i + 1, _, by simp, rfl, by omega, HN, HT2, HK2⟩
    case measure => simp [intOf]; omega
   ·have p1 : decide ((0 : Int) < (i : Int)) = true := by simp; omega
    have p2 : decide (0 < i) = true := by simp; omega
    have hq : (X ++ (⟨#[44, 32]⟩ : ByteArray)).size = X.size + 2 := by rw [ByteArray.size_append]; rfl
    have HN : Hid ((X ++ (⟨#[44, 32]⟩ : ByteArray) ++ Y).data.toList = 91 :: wtj f (i + 1)) := Lib.hid (by
     show _ = 91 :: (wtj f i ++ ((if i = 0 then [] else [44, 32]) ++ f i))
     rw [if_neg (by omega), ByteArray.data_append, Array.toList_append, ByteArray.data_append, Array.toList_append, HX.out, HY.out, List.append_assoc]; rfl)
    clear h0
    go_upto_region 9 with fail
    obtain ⟨wb, hwb⟩ : ∃ wb : World, wb = wr := ⟨wr, rfl⟩
    rw [<- hwb] at HT HK HPD0 HIH0 ⊢
    clear hwb
    obtain ⟨⟨c0, c1, c2, c3, c4, c5, c6⟩, -⟩ := HT.out
    have HPD := HPD0
    have IHI := HIH0
    have HS : Hid (∀ u u' : World, (u.cell? ⟨w.heap.size, 0, none⟩ = some (.int .i64 K) /\ u.cell? ⟨w.heap.size, 1, none⟩ = some (.int .i64 B) /\ u.cell? ⟨w.heap.size, 2, none⟩ = some (.int .i64 F) /\ u.cell? ⟨w.heap.size, 3, none⟩ = some (.int .i64 R) /\ u.cell? ⟨w.heap.size, 4, none⟩ = some (.int .i64 O) /\ u.cell? ⟨w.heap.size, 5, none⟩ = some (.slice p l c) /\ u.cell? ⟨w.heap.size, 6, none⟩ = some (.slice q m d) /\ Below wb.heap.size wb u) -> Below u.heap.size u u' -> (u'.cell? ⟨w.heap.size, 0, none⟩ = some (.int .i64 K) /\ u'.cell? ⟨w.heap.size, 1, none⟩ = some (.int .i64 B) /\ u'.cell? ⟨w.heap.size, 2, none⟩ = some (.int .i64 F) /\ u'.cell? ⟨w.heap.size, 3, none⟩ = some (.int .i64 R) /\ u'.cell? ⟨w.heap.size, 4, none⟩ = some (.int .i64 O) /\ u'.cell? ⟨w.heap.size, 5, none⟩ = some (.slice p l c) /\ u'.cell? ⟨w.heap.size, 6, none⟩ = some (.slice q m d) /\ Below wb.heap.size wb u')) := Lib.hid (fun u u' h hb => ⟨Rg.keep hb (World.block_lt_of_cell? _ _ h.1) h.1, Rg.keep hb (World.block_lt_of_cell? _ _ h.2.1) h.2.1, Rg.keep hb (World.block_lt_of_cell? _ _ h.2.2.1) h.2.2.1, Rg.keep hb (World.block_lt_of_cell? _ _ h.2.2.2.1) h.2.2.2.1, Rg.keep hb (World.block_lt_of_cell? _ _ h.2.2.2.2.1) h.2.2.2.2.1, Rg.keep hb (World.block_lt_of_cell? _ _ h.2.2.2.2.2.1) h.2.2.2.2.2.1, Rg.keep hb (World.block_lt_of_cell? _ _ h.2.2.2.2.2.2.1) h.2.2.2.2.2.2.1, h.2.2.2.2.2.2.2.trans (hb.mono h.2.2.2.2.2.2.2.size)⟩)
    refine Rk.begin (S := fun wS => wS.cell? ⟨w.heap.size, 0, none⟩ = some (.int .i64 K) /\ wS.cell? ⟨w.heap.size, 1, none⟩ = some (.int .i64 B) /\ wS.cell? ⟨w.heap.size, 2, none⟩ = some (.int .i64 F) /\ wS.cell? ⟨w.heap.size, 3, none⟩ = some (.int .i64 R) /\ wS.cell? ⟨w.heap.size, 4, none⟩ = some (.int .i64 O) /\ wS.cell? ⟨w.heap.size, 5, none⟩ = some (.slice p l c) /\ wS.cell? ⟨w.heap.size, 6, none⟩ = some (.slice q m d) /\ Below wb.heap.size wb wS) 12 (by kernel_rfl) ⟨c0, c1, c2, c3, c4, c5, c6, Below.drew (Below.refl _ _)⟩ (fun hHeld => ?_)
    refine Rk.takeP (i := 0) (v := ?_) rfl (by kernel_rfl) (by kernel_rfl) (by kernel_rfl) (by kernel_rfl) (fun _ _ _ h => h) (Or.inl ⟨by kernel_rfl, ?_⟩) (by assumption) ?_
    rotate_left
    ·((intro w hSw; go_simp) <;> with_reducible rfl)
    try simp only [Act.put, List.setIfInBounds_toArray, List.set_cons_zero, List.set_cons_succ]
    refine Rk.take [11, 12] (i := 1) (v := ?_) rfl (by kernel_rfl) (by kernel_rfl) (by kernel_rfl) (by kernel_rfl) (by kernel_rfl) (fun _ _ _ h => h) (Or.inl ⟨by kernel_rfl, ?_⟩) (by assumption) ?_
    rotate_left
    ·((intro w hSw; (try dsimp only at hSw); go_simp) <;> with_reducible rfl)
    try simp only [Act.put, List.setIfInBounds_toArray, List.set_cons_zero, List.set_cons_succ]
    refine Rk.takeP (i := 2) (v := ?_) rfl (by kernel_rfl) (by kernel_rfl) (by kernel_rfl) (by kernel_rfl) (fun _ _ _ h => h) (Or.inl ⟨by kernel_rfl, ?_⟩) (by assumption) ?_
    rotate_left
    ·((intro w hSw; go_simp) <;> with_reducible rfl)
    try simp only [Act.put, List.setIfInBounds_toArray, List.set_cons_zero, List.set_cons_succ]
    refine Rk.takeP (i := 3) (v := ?_) rfl (by kernel_rfl) (by kernel_rfl) (by kernel_rfl) (by kernel_rfl) (fun _ _ _ h => h) (Or.inl ⟨by kernel_rfl, ?_⟩) (by assumption) ?_
    rotate_left
    ·((intro w hSw; go_simp) <;> with_reducible rfl)
    try simp only [Act.put, List.setIfInBounds_toArray, List.set_cons_zero, List.set_cons_succ]
    refine Rk.takeP (i := 4) (v := ?_) rfl (by kernel_rfl) (by kernel_rfl) (by kernel_rfl) (by kernel_rfl) (fun _ _ _ h => h) (Or.inl ⟨by kernel_rfl, ?_⟩) (by assumption) ?_
    rotate_left
    ·((intro w hSw; go_simp) <;> with_reducible rfl)
    try simp only [Act.put, List.setIfInBounds_toArray, List.set_cons_zero, List.set_cons_succ]
    refine Rk.takeP (i := 5) (v := ?_) rfl (by kernel_rfl) (by kernel_rfl) (by kernel_rfl) (by kernel_rfl) (fun _ _ _ h => h) (Or.inl ⟨by kernel_rfl, ?_⟩) (by assumption) ?_
    rotate_left
    ·((intro w hSw; go_simp) <;> with_reducible rfl)
    try simp only [Act.put, List.setIfInBounds_toArray, List.set_cons_zero, List.set_cons_succ]
    refine Rk.takeP (i := 6) (v := ?_) rfl (by kernel_rfl) (by kernel_rfl) (by kernel_rfl) (by kernel_rfl) (fun _ _ _ h => h) (Or.inl ⟨by kernel_rfl, ?_⟩) (by assumption) ?_
    rotate_left
    ·((intro w hSw; go_simp) <;> with_reducible rfl)
    try simp only [Act.put, List.setIfInBounds_toArray, List.set_cons_zero, List.set_cons_succ]
    refine Rk.takeP (i := 7) (v := ?_) rfl (by kernel_rfl) (by kernel_rfl) (by kernel_rfl) (by kernel_rfl) (fun _ _ _ h => h) (Or.inl ⟨by kernel_rfl, ?_⟩) (by assumption) ?_
    rotate_left
    ·((intro w hSw; go_simp) <;> with_reducible rfl)
    try simp only [Act.put, List.setIfInBounds_toArray, List.set_cons_zero, List.set_cons_succ]
    refine Rk.one (i := 8) (by kernel_rfl) rfl (fun KK hK => ?_)
    rw [if_pos (by kernel_rfl)]
    go_simp
    ((with_reducible refine (SZ.out _ (Lib.hid (HPD.out _ (hHeld.2.2.2.2.2.2.2)))).mono ?_); rintro e w9 ⟨rfl, rfl⟩)
    first | (refine hK.out _ _ (fun _ => hHeld) (fun hHeld => ?_)) | (refine hK.out _ _ hHeld (fun hHeld => ?_)) | (go_wp2_with fail; refine hK.out _ _ hHeld (fun hHeld => ?_))
    clear hK KK
    refine Rk.takeP (i := 9) (v := ?_) rfl (by kernel_rfl) (by kernel_rfl) (by kernel_rfl) (by kernel_rfl) (fun _ _ _ h => h) (Or.inl ⟨by kernel_rfl, ?_⟩) (by assumption) ?_
    rotate_left
    ·((intro w hSw; go_simp) <;> with_reducible rfl)
    try simp only [Act.put, List.setIfInBounds_toArray, List.set_cons_zero, List.set_cons_succ]
    refine Rk.takeP (i := 10) (v := ?_) rfl (by kernel_rfl) (by kernel_rfl) (by kernel_rfl) (by kernel_rfl) (fun _ _ _ h => h) (Or.inl ⟨by kernel_rfl, ?_⟩) (by assumption) ?_
    rotate_left
    ·((intro w hSw; go_simp) <;> with_reducible rfl)
    try simp only [Act.put, List.setIfInBounds_toArray, List.set_cons_zero, List.set_cons_succ]
    refine Rk.one (i := 11) (by kernel_rfl) rfl (fun KK hK => ?_)
    rw [if_pos (by kernel_rfl)]
    go_simp
    try rw [e5]
    try rw [e4]
    try rw [e6]
    ((with_reducible refine (IHI.out _ (hHeld.2.2.2.2.2.2.2)).mono ?_); rintro e u ⟨rfl, hb⟩)
    first | (refine hK.out _ _ (fun _ => HS.out _ _ hHeld hb) (fun hHeld => ?_)) | (refine hK.out _ _ (HS.out _ _ hHeld hb) (fun hHeld => ?_)) | (go_wp2_with fail; refine hK.out _ _ (HS.out _ _ hHeld hb) (fun hHeld => ?_))
    clear hK KK
    refine Rk.tail [12, 13] [_, _] (by kernel_rfl) (by kernel_rfl) rfl (by decide) ?_
    have KE := hHeld.2.2.2.2.2.2.2
    have HT2 := Lib.hid (B7.keep KE HT.out.lt HT.out)
    have HK2 := Lib.hid (HK.out.trans (KE.mono HK.out.size))
    clear hHeld HS HPD IHI
    go_wp2_with fail
    go_roundw
    case rel => exact ⟨i + 1, _, by simp, rfl, by omega, HN, HT2, HK2⟩
    case measure => simp [intOf]; omega
  ·obtain rfl : i = y := by omega
   have gN : decide ((i : Int) < (i : Int)) = false := by simp
   go_wp2_with fail
   go_ret
   refine ⟨?_, HK.out⟩
   rw [show X ++ (⟨#[93]⟩ : ByteArray) = ⟨(91 :: (wtj f i ++ [93])).toArray⟩ from ByteArray.ext (Array.toList_inj.1 (by rw [ByteArray.data_append, Array.toList_append, HX.out]; rfl))]
   rfl
end Go.Proofs.YteaaikmejacpaaaGreatDoor.Te

/- Tensors: Format of the reference. -/
namespace Go.Proofs.YteaaikmejacpaaaGreatDoor.Te
open Go.ChangeShapes Go.WideShapes Go.ChangeAt Go.RowKit
open Fx Va Sh
set_option maxRecDepth 8000
set_option linter.unusedVariables false
set_option linter.unusedSimpArgs false

theorem rtext (K B F R O : Int) (p : Option Addr) (l c : Nat) (q : Option Addr) (vs : List (Int × Int)) (d : Nat) (hm : vs.length <= 5000) : ∀ (ds : List Int) (pd : Option Addr) (cd a : Nat) (w : World), vE ds = 0 -> (a : Int) + sp ds <= vs.length -> ds.length <= cd -> cd <= 9223372036854775807 -> Hid (SlI w pd ds) -> Hid (SlV w q vs) ->
  Calls Tryz.prog 78 #[.agg #[.int .i64 K, .int .i64 B, .int .i64 F, .int .i64 R, .int .i64 O, .slice p l c, .slice q vs.length d], .slice pd ds.length cd, .int .i64 a] w fun e w' => e = .returned (.string ⟨(wtx K B F R O ds ((vs.drop a).take (sp ds).toNat)).toArray⟩) /\ Below w.heap.size w w'
 | [], pd, cd, a, w, hv, ha, hc, hc2, PD, RB => by
  have e : sp ([] : List Int) = 1 := rfl
  rw [e] at ha ⊢
  have hal : a < vs.length := by omega
  have h := rt_nil K B F R O p l c q vs d pd cd a w hal hm RB
  have e2 : ((vs.drop a).take (1 : Int).toNat).getD 0 (0, 0) = vs.getD a (0, 0) := by
   rw [show (1 : Int).toNat = 1 from rfl, List.drop_eq_getElem_cons hal, List.getD_eq_getElem?_getD, List.getD_eq_getElem?_getD, List.getElem?_eq_getElem hal]
   rfl
  rw [wtx_nil, e2]
  exact h
 | z :: zt, pd, cd, a, w, hv, ha, hc, hc2, PD, RB =>
  rt_cons K B F R O p l c q vs d z zt pd (z :: zt).length cd a w rfl hv ha hm hc hc2 PD RB
   (fun pd' cd' a' u h1 h2 h3 h4 h5 => rtext K B F R O p l c q vs d hm zt pd' cd' a' u (vE_drop hv 1) h1 h2 h3 h4 h5)
set_option maxRecDepth 100000 in
set_option maxHeartbeats 2000000 in
theorem rfmt (K B F R O : Int) (p : Option Addr) (zs : List Int) (c : Nat) (q : Option Addr) (vs : List (Int × Int)) (d : Nat) (w : World) (b0 : -9223372036854775808 <= B) (b1 : B <= 9223372036854775807) (hn : zs.length <= maxLen) (hm : vs.length <= maxLen) (RA : Hid (SlI w p zs)) (RB : Hid (SlV w q vs)) (hc : zs.length <= c) (hc2 : c <= 9223372036854775807) :
  Calls Tryz.prog 43 #[Tn K B F R O p zs.length c q vs.length d] w fun e w' => e = .returned (.string ⟨(fmX K B F R O zs vs).toArray⟩) /\ Below w.heap.size w w' := by
 have TV0 := fun w h1 h2 => rval K B F R O p zs c q vs d w hn hm h1 h2
 unfold fmX
 have B0 : Hid (Below w.heap.size w (w.alloc (Obj.cells #[Value.int .i64 K, Value.int .i64 B, Value.int .i64 F, Value.int .i64 R, Value.int .i64 O, Value.slice p zs.length c, Value.slice q vs.length d] 27))) := Lib.hid ((Below.refl _ _).alloc (Nat.le_refl _) _)
 by_cases ht : tE K B F R O zs vs = 0
 ·rw [if_neg (by simpa using ht)]
  rw [ht] at TV0
  obtain ⟨-, hv, tl, -⟩ := tE_ok ht
  obtain ⟨h6, hlow, -, hsp, -⟩ := valid_of hv
  have hm5 : vs.length <= 5000 := by omega
  have TXT0 := fun u h1 h2 => rtext K B F R O p zs.length c q vs d hm5 zs p c 0 u hv (by omega) hc hc2 h1 h2
  have e0 : (vs.drop 0).take (sp zs).toNat = vs := by rw [List.drop_zero]; exact List.take_of_length_le (by omega)
  rw [e0, show ((0 : Nat) : Int) = 0 from rfl] at TXT0
  obtain ⟨X, hX⟩ : ∃ X : ByteArray, ⟨(wtx K B F R O zs vs).toArray⟩ = X := ⟨_, rfl⟩
  rw [hX] at TXT0 ⊢
  obtain ⟨m, hmm⟩ : ∃ m, vs.length = m := ⟨_, rfl⟩
  rw [hmm] at TV0 TXT0 B0 ⊢
  have TV := Lib.hid TV0
  have TXT := Lib.hid TXT0
  clear TV0 TXT0 hX ht hv tl h6 hlow hsp hm5 e0 hmm hm
  unfold Tn at *
  go_enter Tryz.func43, Tryz.ntmps43
  go_wp2_with (first | (go_at_call 21; (with_reducible refine (TV.out _ (Lib.hid (SlI.keep B0.out RA.out)) (Lib.hid (SlV.below RB.out B0.out))).mono ?_); rintro e w1 ⟨rfl, hb⟩; have KB := Lib.hid (B0.out.trans (hb.mono B0.out.size)); have c0 : w1.cell? ⟨w.heap.size, 0, none⟩ = some (.int .i64 K) := Rg.keep hb (by simp) (by go_cell); have c1 : w1.cell? ⟨w.heap.size, 1, none⟩ = some (.int .i64 B) := Rg.keep hb (by simp) (by go_cell); have c2 : w1.cell? ⟨w.heap.size, 2, none⟩ = some (.int .i64 F) := Rg.keep hb (by simp) (by go_cell); have c3 : w1.cell? ⟨w.heap.size, 3, none⟩ = some (.int .i64 R) := Rg.keep hb (by simp) (by go_cell); have c4 : w1.cell? ⟨w.heap.size, 4, none⟩ = some (.int .i64 O) := Rg.keep hb (by simp) (by go_cell); have c5 : w1.cell? ⟨w.heap.size, 5, none⟩ = some (.slice p zs.length c) := Rg.keep hb (by simp) (by go_cell); have c6 : w1.cell? ⟨w.heap.size, 6, none⟩ = some (.slice q m d) := Rg.keep hb (by simp) (by go_cell); clear hb) | (go_at_call 78; (with_reducible refine (TXT.out _ (Lib.hid (SlI.keep KB.out RA.out)) (Lib.hid (SlV.below RB.out KB.out))).mono ?_); rintro e w2 ⟨rfl, hb⟩; have KB2 := Lib.hid (KB.out.trans (hb.mono KB.out.size)); clear hb))
  go_ret
  exact ⟨rfl, KB2.out⟩
 ·rw [if_pos ht]
  obtain ⟨E, hE⟩ : ∃ E, tE K B F R O zs vs = E := ⟨_, rfl⟩
  rw [hE] at TV0 ht
  have g1 : (E == 0) = false := by simpa using ht
  have g2 : (E != 0) = true := by simpa using ht
  obtain ⟨m, hmm⟩ : ∃ m, vs.length = m := ⟨_, rfl⟩
  rw [hmm] at TV0 B0 ⊢
  have TV := Lib.hid TV0
  clear TV0 ht hE hmm hm
  unfold Tn at *
  go_enter Tryz.func43, Tryz.ntmps43
  go_wp2_with (go_at_call 21; (with_reducible refine (TV.out _ (Lib.hid (SlI.keep B0.out RA.out)) (Lib.hid (SlV.below RB.out B0.out))).mono ?_); rintro e w1 ⟨rfl, hb⟩; have KB := Lib.hid (B0.out.trans (hb.mono B0.out.size)); have c0 : w1.cell? ⟨w.heap.size, 0, none⟩ = some (.int .i64 K) := Rg.keep hb (by simp) (by go_cell); have c1 : w1.cell? ⟨w.heap.size, 1, none⟩ = some (.int .i64 B) := Rg.keep hb (by simp) (by go_cell); have c2 : w1.cell? ⟨w.heap.size, 2, none⟩ = some (.int .i64 F) := Rg.keep hb (by simp) (by go_cell); have c3 : w1.cell? ⟨w.heap.size, 3, none⟩ = some (.int .i64 R) := Rg.keep hb (by simp) (by go_cell); have c4 : w1.cell? ⟨w.heap.size, 4, none⟩ = some (.int .i64 O) := Rg.keep hb (by simp) (by go_cell); have c5 : w1.cell? ⟨w.heap.size, 5, none⟩ = some (.slice p zs.length c) := Rg.keep hb (by simp) (by go_cell); have c6 : w1.cell? ⟨w.heap.size, 6, none⟩ = some (.slice q m d) := Rg.keep hb (by simp) (by go_cell); clear hb)
  go_ret
  exact ⟨rfl, KB.out⟩
end Go.Proofs.YteaaikmejacpaaaGreatDoor.Te

/- Tensors: the statement on Format and Same. -/
namespace Go.Proofs.YteaaikmejacpaaaGreatDoor.Te
open Go.ChangeShapes Go.WideShapes Go.ChangeAt Go.RowKit
open Fx Va Sh
set_option maxRecDepth 8000
set_option linter.unusedVariables false
set_option linter.unusedSimpArgs false

set_option maxRecDepth 100000 in
set_option maxHeartbeats 4000000 in
theorem fo_a (K B F R O : Int) (p : Option Addr) (zs : List Int) (c : Nat) (q : Option Addr) (vs : List (Int × Int)) (d : Nat) (K' B' F' R' O' : Int) (p' : Option Addr) (zs' : List Int) (c' : Nat) (q' : Option Addr) (vs' : List (Int × Int)) (d' : Nat) (w : World) (hn : zs.length <= maxLen) (hm : vs.length <= maxLen) (hn' : zs'.length <= maxLen) (hm' : vs'.length <= maxLen) (RA : Hid (SlI w p zs)) (RB : Hid (SlV w q vs)) (RA' : Hid (SlI w p' zs')) (RB' : Hid (SlV w q' vs')) (b0 : -9223372036854775808 <= B) (b1 : B <= 9223372036854775807) (hc : zs.length <= c) (hc2 : c <= 9223372036854775807) (hd : vs.length <= d) (hd2 : d <= 9223372036854775807) (hLA : Tx.LA w) (h1 : (decide ((vs.length : Int) <= 500) && decide (zs.length <= 20)) = false) :
  Calls Tryz.prog 13 #[Tn K B F R O p zs.length c q vs.length d, Tn K' B' F' R' O' p' zs'.length c' q' vs'.length d'] w fun en w' => en = .returned (.bool true) /\ Below w.heap.size w w' := by
 have HLA := Lib.hid hLA
 have EX := Lib.hid fun u h => exam12 u h
 have SMa0 := fun u => tsmall K B F R O p zs.length c q vs.length d 500 u
 have SMb0 := fun u => tsmall K' B' F' R' O' p' zs'.length c' q' vs'.length d' 500 u
 rw [h1] at SMa0
 clear SMb0
 obtain ⟨m, hm1⟩ : ∃ m, vs.length = m := ⟨_, rfl⟩
 obtain ⟨m', hm2⟩ : ∃ m, vs'.length = m := ⟨_, rfl⟩
 obtain ⟨l, hl1⟩ : ∃ m, zs.length = m := ⟨_, rfl⟩
 obtain ⟨l', hl2⟩ : ∃ m, zs'.length = m := ⟨_, rfl⟩
 rw [hm1, hl1] at SMa0 ⊢
 rw [hm2, hl2]
 have SMa := Lib.hid SMa0
 clear SMa0 h1 hm1 hm2 hl1 hl2 hc hd hn hm hn' hm'
 unfold Tn
 go_enter Tryz.func13, Tryz.ntmps13
 go_wp2_with (first | (go_at_call 14; (with_reducible refine (SMa.out _).mono ?_); rintro e w1 ⟨rfl, hb⟩; have hW : Below w.heap.size w ((w.alloc (Obj.cells #[Value.int .i64 K, Value.int .i64 B, Value.int .i64 F, Value.int .i64 R, Value.int .i64 O, Value.slice p l c, Value.slice q m d] 27)).alloc (Obj.cells #[Value.int .i64 K', Value.int .i64 B', Value.int .i64 F', Value.int .i64 R', Value.int .i64 O', Value.slice p' l' c', Value.slice q' m' d'] 27)) := ((Below.refl _ _).alloc (Nat.le_refl _) (Obj.cells #[Value.int .i64 K, Value.int .i64 B, Value.int .i64 F, Value.int .i64 R, Value.int .i64 O, Value.slice p l c, Value.slice q m d] 27)).alloc (by simp) (Obj.cells #[Value.int .i64 K', Value.int .i64 B', Value.int .i64 F', Value.int .i64 R', Value.int .i64 O', Value.slice p' l' c', Value.slice q' m' d'] 27); have hX := hW.trans (hb.mono hW.size); have c0 : w1.cell? ⟨w.heap.size, 0, none⟩ = some (.int .i64 K) := Rg.keep hb (by first | omega | (simp; omega) | (simp; done)) (by go_cell); have c1 : w1.cell? ⟨w.heap.size, 1, none⟩ = some (.int .i64 B) := Rg.keep hb (by first | omega | (simp; omega) | (simp; done)) (by go_cell); have c2 : w1.cell? ⟨w.heap.size, 2, none⟩ = some (.int .i64 F) := Rg.keep hb (by first | omega | (simp; omega) | (simp; done)) (by go_cell); have c3 : w1.cell? ⟨w.heap.size, 3, none⟩ = some (.int .i64 R) := Rg.keep hb (by first | omega | (simp; omega) | (simp; done)) (by go_cell); have c4 : w1.cell? ⟨w.heap.size, 4, none⟩ = some (.int .i64 O) := Rg.keep hb (by first | omega | (simp; omega) | (simp; done)) (by go_cell); have c5 : w1.cell? ⟨w.heap.size, 5, none⟩ = some (.slice p l c) := Rg.keep hb (by first | omega | (simp; omega) | (simp; done)) (by go_cell); have c6 : w1.cell? ⟨w.heap.size, 6, none⟩ = some (.slice q m d) := Rg.keep hb (by first | omega | (simp; omega) | (simp; done)) (by go_cell); have lc : w.heap.size < w1.heap.size := World.block_lt_of_cell? _ _ c0; have y0 : w1.cell? ⟨w.heap.size + 1, 0, none⟩ = some (.int .i64 K') := Rg.keep hb (by first | omega | (simp; omega) | (simp; done)) (by go_cell); have y1 : w1.cell? ⟨w.heap.size + 1, 1, none⟩ = some (.int .i64 B') := Rg.keep hb (by first | omega | (simp; omega) | (simp; done)) (by go_cell); have y2 : w1.cell? ⟨w.heap.size + 1, 2, none⟩ = some (.int .i64 F') := Rg.keep hb (by first | omega | (simp; omega) | (simp; done)) (by go_cell); have y3 : w1.cell? ⟨w.heap.size + 1, 3, none⟩ = some (.int .i64 R') := Rg.keep hb (by first | omega | (simp; omega) | (simp; done)) (by go_cell); have y4 : w1.cell? ⟨w.heap.size + 1, 4, none⟩ = some (.int .i64 O') := Rg.keep hb (by first | omega | (simp; omega) | (simp; done)) (by go_cell); have y5 : w1.cell? ⟨w.heap.size + 1, 5, none⟩ = some (.slice p' l' c') := Rg.keep hb (by first | omega | (simp; omega) | (simp; done)) (by go_cell); have y6 : w1.cell? ⟨w.heap.size + 1, 6, none⟩ = some (.slice q' m' d') := Rg.keep hb (by first | omega | (simp; omega) | (simp; done)) (by go_cell); have ly : w.heap.size + 1 < w1.heap.size := World.block_lt_of_cell? _ _ y0; have KB := Lib.hid hX; clear hb hW hX) | (go_at_call 15; (with_reducible refine (EX.out _ (HLA.out.below KB.out)).mono ?_); rintro e wX ⟨rfl, hb⟩; have KX := Lib.hid (KB.out.trans (hb.mono KB.out.size)); clear hb))
 go_ret
 exact ⟨rfl, KX.out⟩

set_option maxRecDepth 100000 in
set_option maxHeartbeats 4000000 in
theorem fo_b (K B F R O : Int) (p : Option Addr) (zs : List Int) (c : Nat) (q : Option Addr) (vs : List (Int × Int)) (d : Nat) (K' B' F' R' O' : Int) (p' : Option Addr) (zs' : List Int) (c' : Nat) (q' : Option Addr) (vs' : List (Int × Int)) (d' : Nat) (w : World) (hn : zs.length <= maxLen) (hm : vs.length <= maxLen) (hn' : zs'.length <= maxLen) (hm' : vs'.length <= maxLen) (RA : Hid (SlI w p zs)) (RB : Hid (SlV w q vs)) (RA' : Hid (SlI w p' zs')) (RB' : Hid (SlV w q' vs')) (b0 : -9223372036854775808 <= B) (b1 : B <= 9223372036854775807) (hc : zs.length <= c) (hc2 : c <= 9223372036854775807) (hd : vs.length <= d) (hd2 : d <= 9223372036854775807) (hLA : Tx.LA w) (h1 : (decide ((vs.length : Int) <= 500) && decide (zs.length <= 20)) = true) (h2 : (decide ((vs'.length : Int) <= 500) && decide (zs'.length <= 20)) = false) :
  Calls Tryz.prog 13 #[Tn K B F R O p zs.length c q vs.length d, Tn K' B' F' R' O' p' zs'.length c' q' vs'.length d'] w fun en w' => en = .returned (.bool true) /\ Below w.heap.size w w' := by
 have HLA := Lib.hid hLA
 have EX := Lib.hid fun u h => exam12 u h
 have SMa0 := fun u => tsmall K B F R O p zs.length c q vs.length d 500 u
 have SMb0 := fun u => tsmall K' B' F' R' O' p' zs'.length c' q' vs'.length d' 500 u
 rw [h1] at SMa0
 rw [h2] at SMb0
 obtain ⟨m, hm1⟩ : ∃ m, vs.length = m := ⟨_, rfl⟩
 obtain ⟨m', hm2⟩ : ∃ m, vs'.length = m := ⟨_, rfl⟩
 obtain ⟨l, hl1⟩ : ∃ m, zs.length = m := ⟨_, rfl⟩
 obtain ⟨l', hl2⟩ : ∃ m, zs'.length = m := ⟨_, rfl⟩
 rw [hm1, hl1] at SMa0 ⊢
 rw [hm2, hl2] at SMb0 ⊢
 have SMa := Lib.hid SMa0
 have SMb := Lib.hid SMb0
 clear SMa0 SMb0 h1 h2 hm1 hm2 hl1 hl2 hc hd hn hm hn' hm'
 unfold Tn
 go_enter Tryz.func13, Tryz.ntmps13
 go_wp2_with (first | (go_at_call 14; (with_reducible refine (SMb.out _).mono ?_); rintro e w2 ⟨rfl, hb⟩; have hW : Below w1.heap.size w1 w1 := Below.refl _ _; have hX := hW.trans (hb.mono hW.size); have c0 : w2.cell? ⟨w.heap.size, 0, none⟩ = some (.int .i64 K) := Rg.keep hb (by first | omega | (simp; omega) | (simp; done)) (by go_cell); have c1 : w2.cell? ⟨w.heap.size, 1, none⟩ = some (.int .i64 B) := Rg.keep hb (by first | omega | (simp; omega) | (simp; done)) (by go_cell); have c2 : w2.cell? ⟨w.heap.size, 2, none⟩ = some (.int .i64 F) := Rg.keep hb (by first | omega | (simp; omega) | (simp; done)) (by go_cell); have c3 : w2.cell? ⟨w.heap.size, 3, none⟩ = some (.int .i64 R) := Rg.keep hb (by first | omega | (simp; omega) | (simp; done)) (by go_cell); have c4 : w2.cell? ⟨w.heap.size, 4, none⟩ = some (.int .i64 O) := Rg.keep hb (by first | omega | (simp; omega) | (simp; done)) (by go_cell); have c5 : w2.cell? ⟨w.heap.size, 5, none⟩ = some (.slice p l c) := Rg.keep hb (by first | omega | (simp; omega) | (simp; done)) (by go_cell); have c6 : w2.cell? ⟨w.heap.size, 6, none⟩ = some (.slice q m d) := Rg.keep hb (by first | omega | (simp; omega) | (simp; done)) (by go_cell); have lc : w.heap.size < w2.heap.size := World.block_lt_of_cell? _ _ c0; have y0 : w2.cell? ⟨w.heap.size + 1, 0, none⟩ = some (.int .i64 K') := Rg.keep hb (by first | omega | (simp; omega) | (simp; done)) (by go_cell); have y1 : w2.cell? ⟨w.heap.size + 1, 1, none⟩ = some (.int .i64 B') := Rg.keep hb (by first | omega | (simp; omega) | (simp; done)) (by go_cell); have y2 : w2.cell? ⟨w.heap.size + 1, 2, none⟩ = some (.int .i64 F') := Rg.keep hb (by first | omega | (simp; omega) | (simp; done)) (by go_cell); have y3 : w2.cell? ⟨w.heap.size + 1, 3, none⟩ = some (.int .i64 R') := Rg.keep hb (by first | omega | (simp; omega) | (simp; done)) (by go_cell); have y4 : w2.cell? ⟨w.heap.size + 1, 4, none⟩ = some (.int .i64 O') := Rg.keep hb (by first | omega | (simp; omega) | (simp; done)) (by go_cell); have y5 : w2.cell? ⟨w.heap.size + 1, 5, none⟩ = some (.slice p' l' c') := Rg.keep hb (by first | omega | (simp; omega) | (simp; done)) (by go_cell); have y6 : w2.cell? ⟨w.heap.size + 1, 6, none⟩ = some (.slice q' m' d') := Rg.keep hb (by first | omega | (simp; omega) | (simp; done)) (by go_cell); have ly : w.heap.size + 1 < w2.heap.size := World.block_lt_of_cell? _ _ y0; replace KB := Lib.hid (KB.out.trans (hX.mono KB.out.size)); clear hb hW hX) | (go_at_call 14; (with_reducible refine (SMa.out _).mono ?_); rintro e w1 ⟨rfl, hb⟩; have hW : Below w.heap.size w ((w.alloc (Obj.cells #[Value.int .i64 K, Value.int .i64 B, Value.int .i64 F, Value.int .i64 R, Value.int .i64 O, Value.slice p l c, Value.slice q m d] 27)).alloc (Obj.cells #[Value.int .i64 K', Value.int .i64 B', Value.int .i64 F', Value.int .i64 R', Value.int .i64 O', Value.slice p' l' c', Value.slice q' m' d'] 27)) := ((Below.refl _ _).alloc (Nat.le_refl _) (Obj.cells #[Value.int .i64 K, Value.int .i64 B, Value.int .i64 F, Value.int .i64 R, Value.int .i64 O, Value.slice p l c, Value.slice q m d] 27)).alloc (by simp) (Obj.cells #[Value.int .i64 K', Value.int .i64 B', Value.int .i64 F', Value.int .i64 R', Value.int .i64 O', Value.slice p' l' c', Value.slice q' m' d'] 27); have hX := hW.trans (hb.mono hW.size); have c0 : w1.cell? ⟨w.heap.size, 0, none⟩ = some (.int .i64 K) := Rg.keep hb (by first | omega | (simp; omega) | (simp; done)) (by go_cell); have c1 : w1.cell? ⟨w.heap.size, 1, none⟩ = some (.int .i64 B) := Rg.keep hb (by first | omega | (simp; omega) | (simp; done)) (by go_cell); have c2 : w1.cell? ⟨w.heap.size, 2, none⟩ = some (.int .i64 F) := Rg.keep hb (by first | omega | (simp; omega) | (simp; done)) (by go_cell); have c3 : w1.cell? ⟨w.heap.size, 3, none⟩ = some (.int .i64 R) := Rg.keep hb (by first | omega | (simp; omega) | (simp; done)) (by go_cell); have c4 : w1.cell? ⟨w.heap.size, 4, none⟩ = some (.int .i64 O) := Rg.keep hb (by first | omega | (simp; omega) | (simp; done)) (by go_cell); have c5 : w1.cell? ⟨w.heap.size, 5, none⟩ = some (.slice p l c) := Rg.keep hb (by first | omega | (simp; omega) | (simp; done)) (by go_cell); have c6 : w1.cell? ⟨w.heap.size, 6, none⟩ = some (.slice q m d) := Rg.keep hb (by first | omega | (simp; omega) | (simp; done)) (by go_cell); have lc : w.heap.size < w1.heap.size := World.block_lt_of_cell? _ _ c0; have y0 : w1.cell? ⟨w.heap.size + 1, 0, none⟩ = some (.int .i64 K') := Rg.keep hb (by first | omega | (simp; omega) | (simp; done)) (by go_cell); have y1 : w1.cell? ⟨w.heap.size + 1, 1, none⟩ = some (.int .i64 B') := Rg.keep hb (by first | omega | (simp; omega) | (simp; done)) (by go_cell); have y2 : w1.cell? ⟨w.heap.size + 1, 2, none⟩ = some (.int .i64 F') := Rg.keep hb (by first | omega | (simp; omega) | (simp; done)) (by go_cell); have y3 : w1.cell? ⟨w.heap.size + 1, 3, none⟩ = some (.int .i64 R') := Rg.keep hb (by first | omega | (simp; omega) | (simp; done)) (by go_cell); have y4 : w1.cell? ⟨w.heap.size + 1, 4, none⟩ = some (.int .i64 O') := Rg.keep hb (by first | omega | (simp; omega) | (simp; done)) (by go_cell); have y5 : w1.cell? ⟨w.heap.size + 1, 5, none⟩ = some (.slice p' l' c') := Rg.keep hb (by first | omega | (simp; omega) | (simp; done)) (by go_cell); have y6 : w1.cell? ⟨w.heap.size + 1, 6, none⟩ = some (.slice q' m' d') := Rg.keep hb (by first | omega | (simp; omega) | (simp; done)) (by go_cell); have ly : w.heap.size + 1 < w1.heap.size := World.block_lt_of_cell? _ _ y0; have KB := Lib.hid hX; clear hb hW hX) | (go_at_call 15; (with_reducible refine (EX.out _ (HLA.out.below KB.out)).mono ?_); rintro e wX ⟨rfl, hb⟩; have KX := Lib.hid (KB.out.trans (hb.mono KB.out.size)); clear hb))
 go_ret
 exact ⟨rfl, KX.out⟩

set_option maxRecDepth 100000 in
set_option maxHeartbeats 4000000 in
theorem fo_c (K B F R O : Int) (p : Option Addr) (zs : List Int) (c : Nat) (q : Option Addr) (vs : List (Int × Int)) (d : Nat) (K' B' F' R' O' : Int) (p' : Option Addr) (zs' : List Int) (c' : Nat) (q' : Option Addr) (vs' : List (Int × Int)) (d' : Nat) (w : World) (hn : zs.length <= maxLen) (hm : vs.length <= maxLen) (hn' : zs'.length <= maxLen) (hm' : vs'.length <= maxLen) (RA : Hid (SlI w p zs)) (RB : Hid (SlV w q vs)) (RA' : Hid (SlI w p' zs')) (RB' : Hid (SlV w q' vs')) (b0 : -9223372036854775808 <= B) (b1 : B <= 9223372036854775807) (hc : zs.length <= c) (hc2 : c <= 9223372036854775807) (hd : vs.length <= d) (hd2 : d <= 9223372036854775807) (hLA : Tx.LA w) (h1 : (decide ((vs.length : Int) <= 500) && decide (zs.length <= 20)) = true) (h2 : (decide ((vs'.length : Int) <= 500) && decide (zs'.length <= 20)) = true) :
  Calls Tryz.prog 13 #[Tn K B F R O p zs.length c q vs.length d, Tn K' B' F' R' O' p' zs'.length c' q' vs'.length d'] w fun en w' => en = .returned (.bool true) /\ Below w.heap.size w w' := by
 have HLA := Lib.hid hLA
 have EX := Lib.hid fun u h => exam12 u h
 have SMa0 := fun u => tsmall K B F R O p zs.length c q vs.length d 500 u
 have SMb0 := fun u => tsmall K' B' F' R' O' p' zs'.length c' q' vs'.length d' 500 u
 rw [h1] at SMa0
 rw [h2] at SMb0
 have D1 : ∀ u, Below w.heap.size w u -> Calls Tryz.prog 42 #[.agg #[.int .i64 K, .int .i64 B, .int .i64 F, .int .i64 R, .int .i64 O, .slice p zs.length c, .slice q vs.length d]] u fun e u' => e = .returned (.string ⟨(fmX K B F R O zs vs).toArray⟩) /\ Below u.heap.size u u' := fun u h => tfm K B F R O p zs c q vs d u b0 b1 hn hm (Lib.hid (SlI.keep h RA.out)) (Lib.hid (SlV.below RB.out h)) hc hc2 hd hd2 (HLA.out.below h)
 have D3 : ∀ u, Below w.heap.size w u -> Calls Tryz.prog 43 #[.agg #[.int .i64 K, .int .i64 B, .int .i64 F, .int .i64 R, .int .i64 O, .slice p zs.length c, .slice q vs.length d]] u fun e u' => e = .returned (.string ⟨(fmX K B F R O zs vs).toArray⟩) /\ Below u.heap.size u u' := fun u h => rfmt K B F R O p zs c q vs d u b0 b1 hn hm (Lib.hid (SlI.keep h RA.out)) (Lib.hid (SlV.below RB.out h)) hc hc2
 have D8 : ∀ u, Below w.heap.size w u -> Calls Tryz.prog 44 #[.agg #[.int .i64 K, .int .i64 B, .int .i64 F, .int .i64 R, .int .i64 O, .slice p zs.length c, .slice q vs.length d], .agg #[.int .i64 K', .int .i64 B', .int .i64 F', .int .i64 R', .int .i64 O', .slice p' zs'.length c', .slice q' vs'.length d']] u fun e u' => e = .returned (.bool (tyEq K B F R O K' B' F' R' O' && (decide (zs = zs') && decide (vs = vs')))) /\ Below u.heap.size u u' := fun u h => tsame K B F R O p zs c q vs d K' B' F' R' O' p' zs' c' q' vs' d' u hn hm hn' hm' (Lib.hid (SlI.keep h RA.out)) (Lib.hid (SlV.below RB.out h)) (Lib.hid (SlI.keep h RA'.out)) (Lib.hid (SlV.below RB'.out h))
 have D11 : ∀ u, Below w.heap.size w u -> Calls Tryz.prog 22 #[.agg #[.int .i64 K, .int .i64 B, .int .i64 F, .int .i64 R, .int .i64 O, .slice p zs.length c, .slice q vs.length d], .agg #[.int .i64 K', .int .i64 B', .int .i64 F', .int .i64 R', .int .i64 O', .slice p' zs'.length c', .slice q' vs'.length d']] u fun e u' => e = .returned (.bool (tyEq K B F R O K' B' F' R' O' && (decide (zs = zs') && decide (vs = vs')))) /\ Below u.heap.size u u' := fun u h => btenG K B F R O p zs c q vs d K' B' F' R' O' p' zs' c' q' vs' d' u hn hm hn' hm' (Lib.hid (SlI.keep h RA.out)) (Lib.hid (SlV.below RB.out h)) (Lib.hid (SlI.keep h RA'.out)) (Lib.hid (SlV.below RB'.out h))
 have D17 : ∀ u, Below w.heap.size w u -> Calls Tryz.prog 44 #[.agg #[.int .i64 K, .int .i64 B, .int .i64 F, .int .i64 R, .int .i64 O, .slice p zs.length c, .slice q vs.length d], .agg #[.int .i64 K, .int .i64 B, .int .i64 F, .int .i64 R, .int .i64 O, .slice p zs.length c, .slice q vs.length d]] u fun e u' => e = .returned (.bool true) /\ Below u.heap.size u u' := fun u h => (tsame K B F R O p zs c q vs d K B F R O p zs c q vs d u hn hm hn hm (Lib.hid (SlI.keep h RA.out)) (Lib.hid (SlV.below RB.out h)) (Lib.hid (SlI.keep h RA.out)) (Lib.hid (SlV.below RB.out h))).mono fun _ _ h => (by rw [tyEq_same, decide_eq_true (show zs = zs from rfl), decide_eq_true (show vs = vs from rfl)] at h; exact h)
 have D20 : ∀ u, Below w.heap.size w u -> Calls Tryz.prog 15 #[] u fun e u' => e = .returned (.bool true) /\ Below u.heap.size u u' := fun u h => exam12 u (HLA.out.below h)
 obtain ⟨X, hX⟩ : ∃ X : ByteArray, ⟨(fmX K B F R O zs vs).toArray⟩ = X := ⟨_, rfl⟩
 rw [hX] at D1 D3
 obtain ⟨T, hT⟩ : ∃ T, (tyEq K B F R O K' B' F' R' O' && (decide (zs = zs') && decide (vs = vs'))) = T := ⟨_, rfl⟩
 rw [hT] at D8 D11
 obtain ⟨m, hm1⟩ : ∃ m, vs.length = m := ⟨_, rfl⟩
 obtain ⟨m', hm2⟩ : ∃ m, vs'.length = m := ⟨_, rfl⟩
 obtain ⟨l, hl1⟩ : ∃ m, zs.length = m := ⟨_, rfl⟩
 obtain ⟨l', hl2⟩ : ∃ m, zs'.length = m := ⟨_, rfl⟩
 rw [hm1, hl1] at SMa0 D1 D3 D8 D11 D17 ⊢
 rw [hm2, hl2] at SMb0 D8 D11 ⊢
 have SMa := Lib.hid SMa0
 have SMb := Lib.hid SMb0
 replace D1 := Lib.hid D1
 replace D3 := Lib.hid D3
 replace D8 := Lib.hid D8
 replace D11 := Lib.hid D11
 replace D17 := Lib.hid D17
 replace D20 := Lib.hid D20
 clear SMa0 SMb0 h1 h2 hm1 hm2 hl1 hl2 hc hd hn hm hn' hm' hX hT
 unfold Tn
 go_enter Tryz.func13, Tryz.ntmps13
 go_upto_region 3 with (first | (go_at_call 14; (with_reducible refine (SMb.out _).mono ?_); rintro e w2 ⟨rfl, hb⟩; have hW : Below w1.heap.size w1 w1 := Below.refl _ _; have hX := hW.trans (hb.mono hW.size); have c0 : w2.cell? ⟨w.heap.size, 0, none⟩ = some (.int .i64 K) := Rg.keep hb (by first | omega | (simp; omega) | (simp; done)) (by go_cell); have c1 : w2.cell? ⟨w.heap.size, 1, none⟩ = some (.int .i64 B) := Rg.keep hb (by first | omega | (simp; omega) | (simp; done)) (by go_cell); have c2 : w2.cell? ⟨w.heap.size, 2, none⟩ = some (.int .i64 F) := Rg.keep hb (by first | omega | (simp; omega) | (simp; done)) (by go_cell); have c3 : w2.cell? ⟨w.heap.size, 3, none⟩ = some (.int .i64 R) := Rg.keep hb (by first | omega | (simp; omega) | (simp; done)) (by go_cell); have c4 : w2.cell? ⟨w.heap.size, 4, none⟩ = some (.int .i64 O) := Rg.keep hb (by first | omega | (simp; omega) | (simp; done)) (by go_cell); have c5 : w2.cell? ⟨w.heap.size, 5, none⟩ = some (.slice p l c) := Rg.keep hb (by first | omega | (simp; omega) | (simp; done)) (by go_cell); have c6 : w2.cell? ⟨w.heap.size, 6, none⟩ = some (.slice q m d) := Rg.keep hb (by first | omega | (simp; omega) | (simp; done)) (by go_cell); have lc : w.heap.size < w2.heap.size := World.block_lt_of_cell? _ _ c0; have y0 : w2.cell? ⟨w.heap.size + 1, 0, none⟩ = some (.int .i64 K') := Rg.keep hb (by first | omega | (simp; omega) | (simp; done)) (by go_cell); have y1 : w2.cell? ⟨w.heap.size + 1, 1, none⟩ = some (.int .i64 B') := Rg.keep hb (by first | omega | (simp; omega) | (simp; done)) (by go_cell); have y2 : w2.cell? ⟨w.heap.size + 1, 2, none⟩ = some (.int .i64 F') := Rg.keep hb (by first | omega | (simp; omega) | (simp; done)) (by go_cell); have y3 : w2.cell? ⟨w.heap.size + 1, 3, none⟩ = some (.int .i64 R') := Rg.keep hb (by first | omega | (simp; omega) | (simp; done)) (by go_cell); have y4 : w2.cell? ⟨w.heap.size + 1, 4, none⟩ = some (.int .i64 O') := Rg.keep hb (by first | omega | (simp; omega) | (simp; done)) (by go_cell); have y5 : w2.cell? ⟨w.heap.size + 1, 5, none⟩ = some (.slice p' l' c') := Rg.keep hb (by first | omega | (simp; omega) | (simp; done)) (by go_cell); have y6 : w2.cell? ⟨w.heap.size + 1, 6, none⟩ = some (.slice q' m' d') := Rg.keep hb (by first | omega | (simp; omega) | (simp; done)) (by go_cell); have ly : w.heap.size + 1 < w2.heap.size := World.block_lt_of_cell? _ _ y0; replace KB := Lib.hid (KB.out.trans (hX.mono KB.out.size)); clear hb hW hX) | (go_at_call 14; (with_reducible refine (SMa.out _).mono ?_); rintro e w1 ⟨rfl, hb⟩; have hW : Below w.heap.size w ((w.alloc (Obj.cells #[Value.int .i64 K, Value.int .i64 B, Value.int .i64 F, Value.int .i64 R, Value.int .i64 O, Value.slice p l c, Value.slice q m d] 27)).alloc (Obj.cells #[Value.int .i64 K', Value.int .i64 B', Value.int .i64 F', Value.int .i64 R', Value.int .i64 O', Value.slice p' l' c', Value.slice q' m' d'] 27)) := ((Below.refl _ _).alloc (Nat.le_refl _) (Obj.cells #[Value.int .i64 K, Value.int .i64 B, Value.int .i64 F, Value.int .i64 R, Value.int .i64 O, Value.slice p l c, Value.slice q m d] 27)).alloc (by simp) (Obj.cells #[Value.int .i64 K', Value.int .i64 B', Value.int .i64 F', Value.int .i64 R', Value.int .i64 O', Value.slice p' l' c', Value.slice q' m' d'] 27); have hX := hW.trans (hb.mono hW.size); have c0 : w1.cell? ⟨w.heap.size, 0, none⟩ = some (.int .i64 K) := Rg.keep hb (by first | omega | (simp; omega) | (simp; done)) (by go_cell); have c1 : w1.cell? ⟨w.heap.size, 1, none⟩ = some (.int .i64 B) := Rg.keep hb (by first | omega | (simp; omega) | (simp; done)) (by go_cell); have c2 : w1.cell? ⟨w.heap.size, 2, none⟩ = some (.int .i64 F) := Rg.keep hb (by first | omega | (simp; omega) | (simp; done)) (by go_cell); have c3 : w1.cell? ⟨w.heap.size, 3, none⟩ = some (.int .i64 R) := Rg.keep hb (by first | omega | (simp; omega) | (simp; done)) (by go_cell); have c4 : w1.cell? ⟨w.heap.size, 4, none⟩ = some (.int .i64 O) := Rg.keep hb (by first | omega | (simp; omega) | (simp; done)) (by go_cell); have c5 : w1.cell? ⟨w.heap.size, 5, none⟩ = some (.slice p l c) := Rg.keep hb (by first | omega | (simp; omega) | (simp; done)) (by go_cell); have c6 : w1.cell? ⟨w.heap.size, 6, none⟩ = some (.slice q m d) := Rg.keep hb (by first | omega | (simp; omega) | (simp; done)) (by go_cell); have lc : w.heap.size < w1.heap.size := World.block_lt_of_cell? _ _ c0; have y0 : w1.cell? ⟨w.heap.size + 1, 0, none⟩ = some (.int .i64 K') := Rg.keep hb (by first | omega | (simp; omega) | (simp; done)) (by go_cell); have y1 : w1.cell? ⟨w.heap.size + 1, 1, none⟩ = some (.int .i64 B') := Rg.keep hb (by first | omega | (simp; omega) | (simp; done)) (by go_cell); have y2 : w1.cell? ⟨w.heap.size + 1, 2, none⟩ = some (.int .i64 F') := Rg.keep hb (by first | omega | (simp; omega) | (simp; done)) (by go_cell); have y3 : w1.cell? ⟨w.heap.size + 1, 3, none⟩ = some (.int .i64 R') := Rg.keep hb (by first | omega | (simp; omega) | (simp; done)) (by go_cell); have y4 : w1.cell? ⟨w.heap.size + 1, 4, none⟩ = some (.int .i64 O') := Rg.keep hb (by first | omega | (simp; omega) | (simp; done)) (by go_cell); have y5 : w1.cell? ⟨w.heap.size + 1, 5, none⟩ = some (.slice p' l' c') := Rg.keep hb (by first | omega | (simp; omega) | (simp; done)) (by go_cell); have y6 : w1.cell? ⟨w.heap.size + 1, 6, none⟩ = some (.slice q' m' d') := Rg.keep hb (by first | omega | (simp; omega) | (simp; done)) (by go_cell); have ly : w.heap.size + 1 < w1.heap.size := World.block_lt_of_cell? _ _ y0; have KB := Lib.hid hX; clear hb hW hX))
 have C1 : Hid (∀ u, Below w2.heap.size w2 u -> Calls Tryz.prog 42 #[.agg #[.int .i64 K, .int .i64 B, .int .i64 F, .int .i64 R, .int .i64 O, .slice p l c, .slice q m d]] u fun e u' => e = .returned (.string X) /\ Below u.heap.size u u') := Lib.hid fun u h => D1.out u (KB.out.trans (h.mono KB.out.size))
 have C3 : Hid (∀ u, Below w2.heap.size w2 u -> Calls Tryz.prog 43 #[.agg #[.int .i64 K, .int .i64 B, .int .i64 F, .int .i64 R, .int .i64 O, .slice p l c, .slice q m d]] u fun e u' => e = .returned (.string X) /\ Below u.heap.size u u') := Lib.hid fun u h => D3.out u (KB.out.trans (h.mono KB.out.size))
 have C8 : Hid (∀ u, Below w2.heap.size w2 u -> Calls Tryz.prog 44 #[.agg #[.int .i64 K, .int .i64 B, .int .i64 F, .int .i64 R, .int .i64 O, .slice p l c, .slice q m d], .agg #[.int .i64 K', .int .i64 B', .int .i64 F', .int .i64 R', .int .i64 O', .slice p' l' c', .slice q' m' d']] u fun e u' => e = .returned (.bool T) /\ Below u.heap.size u u') := Lib.hid fun u h => D8.out u (KB.out.trans (h.mono KB.out.size))
 have C11 : Hid (∀ u, Below w2.heap.size w2 u -> Calls Tryz.prog 22 #[.agg #[.int .i64 K, .int .i64 B, .int .i64 F, .int .i64 R, .int .i64 O, .slice p l c, .slice q m d], .agg #[.int .i64 K', .int .i64 B', .int .i64 F', .int .i64 R', .int .i64 O', .slice p' l' c', .slice q' m' d']] u fun e u' => e = .returned (.bool T) /\ Below u.heap.size u u') := Lib.hid fun u h => D11.out u (KB.out.trans (h.mono KB.out.size))
 have C17 : Hid (∀ u, Below w2.heap.size w2 u -> Calls Tryz.prog 44 #[.agg #[.int .i64 K, .int .i64 B, .int .i64 F, .int .i64 R, .int .i64 O, .slice p l c, .slice q m d], .agg #[.int .i64 K, .int .i64 B, .int .i64 F, .int .i64 R, .int .i64 O, .slice p l c, .slice q m d]] u fun e u' => e = .returned (.bool true) /\ Below u.heap.size u u') := Lib.hid fun u h => D17.out u (KB.out.trans (h.mono KB.out.size))
 have C20 : Hid (∀ u, Below w2.heap.size w2 u -> Calls Tryz.prog 15 #[] u fun e u' => e = .returned (.bool true) /\ Below u.heap.size u u') := Lib.hid fun u h => D20.out u (KB.out.trans (h.mono KB.out.size))
 clear D1 D3 D8 D11 D17 D20 SMa SMb EX
 have HS : Hid (∀ u u' : World, (u.cell? ⟨w.heap.size, 0, none⟩ = some (.int .i64 K) /\ u.cell? ⟨w.heap.size, 1, none⟩ = some (.int .i64 B) /\ u.cell? ⟨w.heap.size, 2, none⟩ = some (.int .i64 F) /\ u.cell? ⟨w.heap.size, 3, none⟩ = some (.int .i64 R) /\ u.cell? ⟨w.heap.size, 4, none⟩ = some (.int .i64 O) /\ u.cell? ⟨w.heap.size, 5, none⟩ = some (.slice p l c) /\ u.cell? ⟨w.heap.size, 6, none⟩ = some (.slice q m d) /\ u.cell? ⟨w.heap.size + 1, 0, none⟩ = some (.int .i64 K') /\ u.cell? ⟨w.heap.size + 1, 1, none⟩ = some (.int .i64 B') /\ u.cell? ⟨w.heap.size + 1, 2, none⟩ = some (.int .i64 F') /\ u.cell? ⟨w.heap.size + 1, 3, none⟩ = some (.int .i64 R') /\ u.cell? ⟨w.heap.size + 1, 4, none⟩ = some (.int .i64 O') /\ u.cell? ⟨w.heap.size + 1, 5, none⟩ = some (.slice p' l' c') /\ u.cell? ⟨w.heap.size + 1, 6, none⟩ = some (.slice q' m' d') /\ Below w2.heap.size w2 u) -> Below u.heap.size u u' -> (u'.cell? ⟨w.heap.size, 0, none⟩ = some (.int .i64 K) /\ u'.cell? ⟨w.heap.size, 1, none⟩ = some (.int .i64 B) /\ u'.cell? ⟨w.heap.size, 2, none⟩ = some (.int .i64 F) /\ u'.cell? ⟨w.heap.size, 3, none⟩ = some (.int .i64 R) /\ u'.cell? ⟨w.heap.size, 4, none⟩ = some (.int .i64 O) /\ u'.cell? ⟨w.heap.size, 5, none⟩ = some (.slice p l c) /\ u'.cell? ⟨w.heap.size, 6, none⟩ = some (.slice q m d) /\ u'.cell? ⟨w.heap.size + 1, 0, none⟩ = some (.int .i64 K') /\ u'.cell? ⟨w.heap.size + 1, 1, none⟩ = some (.int .i64 B') /\ u'.cell? ⟨w.heap.size + 1, 2, none⟩ = some (.int .i64 F') /\ u'.cell? ⟨w.heap.size + 1, 3, none⟩ = some (.int .i64 R') /\ u'.cell? ⟨w.heap.size + 1, 4, none⟩ = some (.int .i64 O') /\ u'.cell? ⟨w.heap.size + 1, 5, none⟩ = some (.slice p' l' c') /\ u'.cell? ⟨w.heap.size + 1, 6, none⟩ = some (.slice q' m' d') /\ Below w2.heap.size w2 u')) := Lib.hid (fun u u' h hb => ⟨Rg.keep hb (World.block_lt_of_cell? _ _ h.1) h.1, Rg.keep hb (World.block_lt_of_cell? _ _ h.2.1) h.2.1, Rg.keep hb (World.block_lt_of_cell? _ _ h.2.2.1) h.2.2.1, Rg.keep hb (World.block_lt_of_cell? _ _ h.2.2.2.1) h.2.2.2.1, Rg.keep hb (World.block_lt_of_cell? _ _ h.2.2.2.2.1) h.2.2.2.2.1, Rg.keep hb (World.block_lt_of_cell? _ _ h.2.2.2.2.2.1) h.2.2.2.2.2.1, Rg.keep hb (World.block_lt_of_cell? _ _ h.2.2.2.2.2.2.1) h.2.2.2.2.2.2.1, Rg.keep hb (World.block_lt_of_cell? _ _ h.2.2.2.2.2.2.2.1) h.2.2.2.2.2.2.2.1, Rg.keep hb (World.block_lt_of_cell? _ _ h.2.2.2.2.2.2.2.2.1) h.2.2.2.2.2.2.2.2.1, Rg.keep hb (World.block_lt_of_cell? _ _ h.2.2.2.2.2.2.2.2.2.1) h.2.2.2.2.2.2.2.2.2.1, Rg.keep hb (World.block_lt_of_cell? _ _ h.2.2.2.2.2.2.2.2.2.2.1) h.2.2.2.2.2.2.2.2.2.2.1, Rg.keep hb (World.block_lt_of_cell? _ _ h.2.2.2.2.2.2.2.2.2.2.2.1) h.2.2.2.2.2.2.2.2.2.2.2.1, Rg.keep hb (World.block_lt_of_cell? _ _ h.2.2.2.2.2.2.2.2.2.2.2.2.1) h.2.2.2.2.2.2.2.2.2.2.2.2.1, Rg.keep hb (World.block_lt_of_cell? _ _ h.2.2.2.2.2.2.2.2.2.2.2.2.2.1) h.2.2.2.2.2.2.2.2.2.2.2.2.2.1, h.2.2.2.2.2.2.2.2.2.2.2.2.2.2.trans (hb.mono h.2.2.2.2.2.2.2.2.2.2.2.2.2.2.size)⟩)
 refine Rk.begin (S := fun wS => wS.cell? ⟨w.heap.size, 0, none⟩ = some (.int .i64 K) /\ wS.cell? ⟨w.heap.size, 1, none⟩ = some (.int .i64 B) /\ wS.cell? ⟨w.heap.size, 2, none⟩ = some (.int .i64 F) /\ wS.cell? ⟨w.heap.size, 3, none⟩ = some (.int .i64 R) /\ wS.cell? ⟨w.heap.size, 4, none⟩ = some (.int .i64 O) /\ wS.cell? ⟨w.heap.size, 5, none⟩ = some (.slice p l c) /\ wS.cell? ⟨w.heap.size, 6, none⟩ = some (.slice q m d) /\ wS.cell? ⟨w.heap.size + 1, 0, none⟩ = some (.int .i64 K') /\ wS.cell? ⟨w.heap.size + 1, 1, none⟩ = some (.int .i64 B') /\ wS.cell? ⟨w.heap.size + 1, 2, none⟩ = some (.int .i64 F') /\ wS.cell? ⟨w.heap.size + 1, 3, none⟩ = some (.int .i64 R') /\ wS.cell? ⟨w.heap.size + 1, 4, none⟩ = some (.int .i64 O') /\ wS.cell? ⟨w.heap.size + 1, 5, none⟩ = some (.slice p' l' c') /\ wS.cell? ⟨w.heap.size + 1, 6, none⟩ = some (.slice q' m' d') /\ Below w2.heap.size w2 wS) 22 (by kernel_rfl) ⟨c0, c1, c2, c3, c4, c5, c6, y0, y1, y2, y3, y4, y5, y6, Below.drew (Below.refl _ _)⟩ (fun hHeld => ?_)
 refine Rk.take [22] (i := 0) (v := ?_) rfl (by kernel_rfl) (by kernel_rfl) (by kernel_rfl) (by kernel_rfl) (by kernel_rfl) (fun _ _ _ h => h) (Or.inl ⟨by kernel_rfl, ?_⟩) (by assumption) ?_
 rotate_left
 ·((intro w hSw; (try dsimp only at hSw); go_simp) <;> with_reducible rfl)
 try simp only [Act.put, List.setIfInBounds_toArray, List.set_cons_zero, List.set_cons_succ]
 refine Rk.take [22] (i := 2) (v := ?_) rfl (by kernel_rfl) (by kernel_rfl) (by kernel_rfl) (by kernel_rfl) (by kernel_rfl) (fun _ _ _ h => h) (Or.inl ⟨by kernel_rfl, ?_⟩) (by assumption) ?_
 rotate_left
 ·((intro w hSw; (try dsimp only at hSw); go_simp) <;> with_reducible rfl)
 try simp only [Act.put, List.setIfInBounds_toArray, List.set_cons_zero, List.set_cons_succ]
 refine Rk.one (i := 1) (by kernel_rfl) rfl (fun KK hK => ?_)
 rw [if_pos (by kernel_rfl)]
 go_simp
 ((with_reducible refine (C1.out _ (hHeld.2.2.2.2.2.2.2.2.2.2.2.2.2.2)).mono ?_); rintro e u ⟨rfl, hb⟩)
 first | (refine hK.out _ _ (fun _ => HS.out _ _ hHeld hb) (fun hHeld => ?_)) | (refine hK.out _ _ (HS.out _ _ hHeld hb) (fun hHeld => ?_)) | (go_wp2_with fail; refine hK.out _ _ (HS.out _ _ hHeld hb) (fun hHeld => ?_))
 clear hK KK
 refine Rk.one (i := 3) (by kernel_rfl) rfl (fun KK hK => ?_)
 rw [if_pos (by kernel_rfl)]
 go_simp
 ((with_reducible refine (C3.out _ (hHeld.2.2.2.2.2.2.2.2.2.2.2.2.2.2)).mono ?_); rintro e u ⟨rfl, hb⟩)
 first | (refine hK.out _ _ (fun _ => HS.out _ _ hHeld hb) (fun hHeld => ?_)) | (refine hK.out _ _ (HS.out _ _ hHeld hb) (fun hHeld => ?_)) | (go_wp2_with fail; refine hK.out _ _ (HS.out _ _ hHeld hb) (fun hHeld => ?_))
 clear hK KK
 refine Rk.takeP (i := 4) (v := ?_) rfl (by kernel_rfl) (by kernel_rfl) (by kernel_rfl) (by kernel_rfl) (fun _ _ _ h => h) (Or.inl ⟨by kernel_rfl, ?_⟩) (by assumption) ?_
 rotate_left
 ·((intro w hSw; go_simp) <;> with_reducible rfl)
 try simp only [Act.put, List.setIfInBounds_toArray, List.set_cons_zero, List.set_cons_succ]
 refine Rk.takeP (i := 5) (v := ?_) rfl (by kernel_rfl) (by kernel_rfl) (by kernel_rfl) (by kernel_rfl) (fun _ _ _ h => h) (Or.inl ⟨by kernel_rfl, ?_⟩) (by assumption) ?_
 rotate_left
 ·((intro w hSw; go_simp) <;> with_reducible rfl)
 try simp only [Act.put, List.setIfInBounds_toArray, List.set_cons_zero, List.set_cons_succ]
 refine Rk.take [22] (i := 6) (v := ?_) rfl (by kernel_rfl) (by kernel_rfl) (by kernel_rfl) (by kernel_rfl) (by kernel_rfl) (fun _ _ _ h => h) (Or.inl ⟨by kernel_rfl, ?_⟩) (by assumption) ?_
 rotate_left
 ·((intro w hSw; (try dsimp only at hSw); go_simp) <;> with_reducible rfl)
 try simp only [Act.put, List.setIfInBounds_toArray, List.set_cons_zero, List.set_cons_succ]
 refine Rk.take [22] (i := 7) (v := ?_) rfl (by kernel_rfl) (by kernel_rfl) (by kernel_rfl) (by kernel_rfl) (by kernel_rfl) (fun _ _ _ h => h) (Or.inl ⟨by kernel_rfl, ?_⟩) (by assumption) ?_
 rotate_left
 ·((intro w hSw; (try dsimp only at hSw); go_simp) <;> with_reducible rfl)
 try simp only [Act.put, List.setIfInBounds_toArray, List.set_cons_zero, List.set_cons_succ]
 refine Rk.take [22] (i := 9) (v := ?_) rfl (by kernel_rfl) (by kernel_rfl) (by kernel_rfl) (by kernel_rfl) (by kernel_rfl) (fun _ _ _ h => h) (Or.inl ⟨by kernel_rfl, ?_⟩) (by assumption) ?_
 rotate_left
 ·((intro w hSw; (try dsimp only at hSw); go_simp) <;> with_reducible rfl)
 try simp only [Act.put, List.setIfInBounds_toArray, List.set_cons_zero, List.set_cons_succ]
 refine Rk.take [22] (i := 10) (v := ?_) rfl (by kernel_rfl) (by kernel_rfl) (by kernel_rfl) (by kernel_rfl) (by kernel_rfl) (fun _ _ _ h => h) (Or.inl ⟨by kernel_rfl, ?_⟩) (by assumption) ?_
 rotate_left
 ·((intro w hSw; (try dsimp only at hSw); go_simp) <;> with_reducible rfl)
 try simp only [Act.put, List.setIfInBounds_toArray, List.set_cons_zero, List.set_cons_succ]
 refine Rk.one (i := 8) (by kernel_rfl) rfl (fun KK hK => ?_)
 rw [if_pos (by kernel_rfl)]
 go_simp
 ((with_reducible refine (C8.out _ (hHeld.2.2.2.2.2.2.2.2.2.2.2.2.2.2)).mono ?_); rintro e u ⟨rfl, hb⟩)
 first | (refine hK.out _ _ (fun _ => HS.out _ _ hHeld hb) (fun hHeld => ?_)) | (refine hK.out _ _ (HS.out _ _ hHeld hb) (fun hHeld => ?_)) | (go_wp2_with fail; refine hK.out _ _ (HS.out _ _ hHeld hb) (fun hHeld => ?_))
 clear hK KK
 refine Rk.one (i := 11) (by kernel_rfl) rfl (fun KK hK => ?_)
 rw [if_pos (by kernel_rfl)]
 go_simp
 ((with_reducible refine (C11.out _ (hHeld.2.2.2.2.2.2.2.2.2.2.2.2.2.2)).mono ?_); rintro e u ⟨rfl, hb⟩)
 first | (refine hK.out _ _ (fun _ => HS.out _ _ hHeld hb) (fun hHeld => ?_)) | (refine hK.out _ _ (HS.out _ _ hHeld hb) (fun hHeld => ?_)) | (go_wp2_with fail; refine hK.out _ _ (HS.out _ _ hHeld hb) (fun hHeld => ?_))
 clear hK KK
 refine Rk.takeP (i := 12) (v := ?_) rfl (by kernel_rfl) (by kernel_rfl) (by kernel_rfl) (by kernel_rfl) (fun _ _ _ h => h) (Or.inl ⟨by kernel_rfl, ?_⟩) (by assumption) ?_
 rotate_left
 ·((intro w hSw; go_simp) <;> with_reducible rfl)
 try simp only [Act.put, List.setIfInBounds_toArray, List.set_cons_zero, List.set_cons_succ]
 refine Rk.takeP (i := 13) (v := ?_) rfl (by kernel_rfl) (by kernel_rfl) (by kernel_rfl) (by kernel_rfl) (fun _ _ _ h => h) (Or.inl ⟨by kernel_rfl, ?_⟩) (by assumption) ?_
 rotate_left
 ·((intro w hSw; go_simp) <;> with_reducible rfl)
 try simp only [Act.put, List.setIfInBounds_toArray, List.set_cons_zero, List.set_cons_succ]
 refine Rk.takeP (i := 14) (v := ?_) rfl (by kernel_rfl) (by kernel_rfl) (by kernel_rfl) (by kernel_rfl) (fun _ _ _ h => h) (Or.inl ⟨by kernel_rfl, ?_⟩) (by assumption) ?_
 rotate_left
 ·((intro w hSw; go_simp) <;> with_reducible rfl)
 try simp only [Act.put, List.setIfInBounds_toArray, List.set_cons_zero, List.set_cons_succ]
 refine Rk.take [22] (i := 15) (v := ?_) rfl (by kernel_rfl) (by kernel_rfl) (by kernel_rfl) (by kernel_rfl) (by kernel_rfl) (fun _ _ _ h => h) (Or.inl ⟨by kernel_rfl, ?_⟩) (by assumption) ?_
 rotate_left
 ·((intro w hSw; (try dsimp only at hSw); go_simp) <;> with_reducible rfl)
 try simp only [Act.put, List.setIfInBounds_toArray, List.set_cons_zero, List.set_cons_succ]
 refine Rk.take [22] (i := 16) (v := ?_) rfl (by kernel_rfl) (by kernel_rfl) (by kernel_rfl) (by kernel_rfl) (by kernel_rfl) (fun _ _ _ h => h) (Or.inl ⟨by kernel_rfl, ?_⟩) (by assumption) ?_
 rotate_left
 ·((intro w hSw; (try dsimp only at hSw); go_simp) <;> with_reducible rfl)
 try simp only [Act.put, List.setIfInBounds_toArray, List.set_cons_zero, List.set_cons_succ]
 refine Rk.one (i := 17) (by kernel_rfl) rfl (fun KK hK => ?_)
 rw [if_pos (by kernel_rfl)]
 go_simp
 ((with_reducible refine (C17.out _ (hHeld.2.2.2.2.2.2.2.2.2.2.2.2.2.2)).mono ?_); rintro e u ⟨rfl, hb⟩)
 first | (refine hK.out _ _ (fun _ => HS.out _ _ hHeld hb) (fun hHeld => ?_)) | (refine hK.out _ _ (HS.out _ _ hHeld hb) (fun hHeld => ?_)) | (go_wp2_with fail; refine hK.out _ _ (HS.out _ _ hHeld hb) (fun hHeld => ?_))
 clear hK KK
 refine Rk.takeP (i := 18) (v := ?_) rfl (by kernel_rfl) (by kernel_rfl) (by kernel_rfl) (by kernel_rfl) (fun _ _ _ h => h) (Or.inl ⟨by kernel_rfl, ?_⟩) (by assumption) ?_
 rotate_left
 ·((intro w hSw; go_simp) <;> with_reducible rfl)
 try simp only [Act.put, List.setIfInBounds_toArray, List.set_cons_zero, List.set_cons_succ]
 refine Rk.takeP (i := 19) (v := ?_) rfl (by kernel_rfl) (by kernel_rfl) (by kernel_rfl) (by kernel_rfl) (fun _ _ _ h => h) (Or.inl ⟨by kernel_rfl, ?_⟩) (by assumption) ?_
 rotate_left
 ·((intro w hSw; go_simp) <;> with_reducible rfl)
 try simp only [Act.put, List.setIfInBounds_toArray, List.set_cons_zero, List.set_cons_succ]
 refine Rk.one (i := 20) (by kernel_rfl) rfl (fun KK hK => ?_)
 rw [if_pos (by kernel_rfl)]
 go_simp
 ((with_reducible refine (C20.out _ (hHeld.2.2.2.2.2.2.2.2.2.2.2.2.2.2)).mono ?_); rintro e u ⟨rfl, hb⟩)
 first | (refine hK.out _ _ (fun _ => HS.out _ _ hHeld hb) (fun hHeld => ?_)) | (refine hK.out _ _ (HS.out _ _ hHeld hb) (fun hHeld => ?_)) | (go_wp2_with fail; refine hK.out _ _ (HS.out _ _ hHeld hb) (fun hHeld => ?_))
 clear hK KK
 refine Rk.takeP (i := 21) (v := ?_) rfl (by kernel_rfl) (by kernel_rfl) (by kernel_rfl) (by kernel_rfl) (fun _ _ _ h => h) (Or.inl ⟨by kernel_rfl, ?_⟩) (by assumption) ?_
 rotate_left
 ·((intro w hSw; go_simp) <;> with_reducible rfl)
 try simp only [Act.put, List.setIfInBounds_toArray, List.set_cons_zero, List.set_cons_succ]
 refine Rk.tail [22] [_] (by kernel_rfl) (by kernel_rfl) rfl (by decide) ?_
 have KE := Lib.hid (KB.out.trans (hHeld.2.2.2.2.2.2.2.2.2.2.2.2.2.2.mono KB.out.size))
 go_wp2_with fail
 go_ret
 exact ⟨rfl, KE.out⟩
theorem law_fo (K B F R O : Int) (p : Option Addr) (zs : List Int) (c : Nat) (q : Option Addr) (vs : List (Int × Int)) (d : Nat) (K' B' F' R' O' : Int) (p' : Option Addr) (zs' : List Int) (c' : Nat) (q' : Option Addr) (vs' : List (Int × Int)) (d' : Nat) (w : World) (hn : zs.length <= maxLen) (hm : vs.length <= maxLen) (hn' : zs'.length <= maxLen) (hm' : vs'.length <= maxLen) (RA : Hid (SlI w p zs)) (RB : Hid (SlV w q vs)) (RA' : Hid (SlI w p' zs')) (RB' : Hid (SlV w q' vs')) (b0 : -9223372036854775808 <= B) (b1 : B <= 9223372036854775807) (hc : zs.length <= c) (hc2 : c <= 9223372036854775807) (hd : vs.length <= d) (hd2 : d <= 9223372036854775807) (hLA : Tx.LA w) :
  Calls Tryz.prog 13 #[Tn K B F R O p zs.length c q vs.length d, Tn K' B' F' R' O' p' zs'.length c' q' vs'.length d'] w fun en w' => en = .returned (.bool true) /\ Below w.heap.size w w' := by
 cases h1 : (decide ((vs.length : Int) <= 500) && decide (zs.length <= 20))
 ·exact fo_a K B F R O p zs c q vs d K' B' F' R' O' p' zs' c' q' vs' d' w hn hm hn' hm' RA RB RA' RB' b0 b1 hc hc2 hd hd2 hLA h1
 ·cases h2 : (decide ((vs'.length : Int) <= 500) && decide (zs'.length <= 20))
  ·exact fo_b K B F R O p zs c q vs d K' B' F' R' O' p' zs' c' q' vs' d' w hn hm hn' hm' RA RB RA' RB' b0 b1 hc hc2 hd hd2 hLA h1 h2
  ·exact fo_c K B F R O p zs c q vs d K' B' F' R' O' p' zs' c' q' vs' d' w hn hm hn' hm' RA RB RA' RB' b0 b1 hc hc2 hd hd2 hLA h1 h2
end Go.Proofs.YteaaikmejacpaaaGreatDoor.Te
