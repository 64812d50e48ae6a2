/- Linear forms: their order. -/
import Derived.WalkKit
import Derived.ProofKit
import Derived.OpenShut
import Derived.Lib.Bytealg
import Derived.Test.YtbicmlkjonaccaaDoorRows
import Derived.WalkLawsBesides
import Derived.WalkSpells
import Derived.Outline
import Derived.Handy
import Derived.IntWalk
import Derived.Deep.QuietTactic
import Derived.BigQuiet
import Derived.Lib.Hide
import Derived.OwnWalk
import Derived.WalkSmall
import Derived.Deep.RegionHeld
import Derived.Shelf.Strings.Builder1
import Derived.Shelf.Small.Strs
import Derived.Shelf.Strings.BuilderF
import Derived.Shelf.Strings.BuilderK
import Derived.Shelf.Strconv.Itoa0
import Derived.Shelf.Strconv.Itoa1
import Derived.Shelf.LaysM
import Derived.Shelf.Strconv.Itoa2
import Derived.Shelf.Strconv.Itoa3
import Derived.Shelf.Strconv.Itoa4
import Derived.Shelf.Bits.Mul64
import Derived.Shelf.Strings.BuilderCap
import Derived.Test.YtbicmlkjonaccaaDoorProg
import Derived.Deep.RegionHeld3
import Derived.Deep.RegionWith
import Derived.Laws.Externs
import Derived.Shelf.Spec.BitsCarry

namespace Go.Proofs.YtbicmlkjonaccaaDoor.Ln
open Go.ChangeShapes Go.WideShapes Go.ChangeAt Go.RowKit
set_option linter.unusedVariables false
set_option linter.unusedSimpArgs false
abbrev Mo := ByteArray × Int
abbrev mo0 : Mo := (ByteArray.empty, 0)
def ic (a b : Int) : Int := if a < b then -1 else if b < a then 1 else 0
def cs (a b : ByteArray) : Int := Lib.compareBytes a.data.toList b.data.toList
theorem cb_swap : ∀ a b : List UInt8, Lib.compareBytes b a = - Lib.compareBytes a b
 | [], [] => rfl
 | [], _ :: _ => rfl
 | _ :: _, [] => rfl
 | a :: aL, b :: bs => by
  have ih := cb_swap aL bs
  unfold Lib.compareBytes
  simp only [UInt8.lt_iff_toNat_lt]
  split <;> split <;> (try split) <;> omega
theorem cb_less : ∀ a b : List UInt8, Op.bytesLess a b = decide (Lib.compareBytes a b < 0)
 | [], [] => rfl
 | [], _ :: _ => rfl
 | _ :: _, [] => rfl
 | a :: aL, b :: bs => by
  have ih := cb_less aL bs
  unfold Lib.compareBytes Op.bytesLess
  rw [ih]
  by_cases h1 : a < b
  ·simp [h1]
  ·by_cases h2 : b < a
   ·have : ¬ a = b := fun h => by subst h; exact h1 h2
    simp [h1, h2, this]
   ·obtain rfl : a = b := UInt8.le_antisymm (UInt8.not_lt.1 h2) (UInt8.not_lt.1 h1)
    simp
theorem cb_zero : ∀ a b : List UInt8, Lib.compareBytes a b = 0 ↔ a = b
 | [], [] => by simp [Lib.compareBytes]
 | [], _ :: _ => by simp [Lib.compareBytes]
 | _ :: _, [] => by simp [Lib.compareBytes]
 | a :: aL, b :: bs => by
  have ih := cb_zero aL bs
  unfold Lib.compareBytes
  by_cases h1 : a < b
  ·have : ¬ a = b := fun h => by subst h; exact UInt8.lt_irrefl _ h1
   simp [h1, this]
  ·by_cases h2 : b < a
   ·have : ¬ a = b := fun h => by subst h; exact h1 h2
    simp [h1, h2, this]
   ·obtain rfl : a = b := UInt8.le_antisymm (UInt8.not_lt.1 h2) (UInt8.not_lt.1 h1)
    simp [ih]
theorem cb_bd : ∀ a b : List UInt8, -1 <= Lib.compareBytes a b /\ Lib.compareBytes a b <= 1
 | [], [] => by simp [Lib.compareBytes]
 | [], _ :: _ => by simp [Lib.compareBytes]
 | _ :: _, [] => by simp [Lib.compareBytes]
 | a :: aL, b :: bs => by
  have ih := cb_bd aL bs
  unfold Lib.compareBytes
  split
  ·omega
  ·split <;> omega
theorem cs_zero {a b : ByteArray} : cs a b = 0 ↔ a = b := by
 unfold cs
 rw [cb_zero]
 exact ⟨fun h => ByteArray.ext (Array.toList_inj.1 h), fun h => by rw [h]⟩
theorem cs_swap (a b : ByteArray) : cs b a = - cs a b := cb_swap _ _
theorem cs_bd (a b : ByteArray) : -1 <= cs a b /\ cs a b <= 1 := cb_bd _ _
theorem cs_less (a b : ByteArray) : Op.bytesLess a.toList b.toList = decide (cs a b < 0) := by
 rw [ByteArray.toList_eq, ByteArray.toList_eq]; exact cb_less _ _
theorem cs_eq (a b : ByteArray) : (a.toList == b.toList) = decide (cs a b = 0) := by
 rw [ByteArray.toList_eq, ByteArray.toList_eq, Bool.eq_iff_iff, beq_iff_eq, decide_eq_true_eq]
 exact (cb_zero _ _).symm
theorem ic_swap (a b : Int) : ic b a = - ic a b := by unfold ic; split <;> (try split) <;> (try split) <;> omega
theorem ic_zero {a b : Int} : ic a b = 0 ↔ a = b := by unfold ic; split <;> (try split) <;> omega

def mc (x y : Mo) : Int := if cs x.1 y.1 = 0 then ic x.2 y.2 else cs x.1 y.1
theorem mc_swap (x y : Mo) : mc y x = - mc x y := by
 unfold mc
 rw [cs_swap x.1 y.1, ic_swap x.2 y.2]
 split <;> split <;> omega
theorem mc_zero {x y : Mo} : mc x y = 0 ↔ x = y := by
 unfold mc
 split
 ·rename_i h
  rw [ic_zero]
  exact ⟨fun h2 => Prod.ext (cs_zero.1 h) h2, fun h2 => by rw [h2]⟩
 ·rename_i h
  exact ⟨fun h2 => absurd h2 h, fun h2 => absurd (cs_zero.2 (by rw [h2])) h⟩

def lc : List Mo -> List Mo -> Int
 | [], [] => 0
 | [], _ :: _ => -1
 | _ :: _, [] => 1
 | x :: r, y :: s => if mc x y = 0 then lc r s else mc x y
theorem lc_swap : ∀ xs ys : List Mo, lc ys xs = - lc xs ys
 | [], [] => rfl
 | [], _ :: _ => rfl
 | _ :: _, [] => rfl
 | x :: r, y :: s => by
  have ih := lc_swap r s
  unfold lc
  rw [mc_swap x y]
  split <;> split <;> omega
theorem lc_zero : ∀ xs ys : List Mo, lc xs ys = 0 ↔ xs = ys
 | [], [] => by simp [lc]
 | [], _ :: _ => by simp [lc]
 | _ :: _, [] => by simp [lc]
 | x :: r, y :: s => by
  have ih := lc_zero r s
  unfold lc
  split
  ·rename_i h
   rw [ih, mc_zero.1 h]
   simp
  ·rename_i h
   refine ⟨fun h2 => absurd h2 h, fun h2 => absurd (mc_zero.2 ?_) h⟩
   simp at h2
   exact h2.1

theorem lc_step {xs ys : List Mo} {k : Nat} (h1 : k < xs.length) (h2 : k < ys.length) : lc (xs.drop k) (ys.drop k) = if mc (xs.getD k mo0) (ys.getD k mo0) = 0 then lc (xs.drop (k + 1)) (ys.drop (k + 1)) else mc (xs.getD k mo0) (ys.getD k mo0) := by
 rw [List.drop_eq_getElem_cons h1, List.drop_eq_getElem_cons h2]
 have e1 : xs.getD k mo0 = xs[k] := by unfold List.getD; rw [List.getElem?_eq_getElem h1]; rfl
 have e2 : ys.getD k mo0 = ys[k] := by unfold List.getD; rw [List.getElem?_eq_getElem h2]; rfl
 rw [e1, e2]
 rfl
theorem lc_long {xs ys : List Mo} {k : Nat} (h1 : k < xs.length) (h2 : k = ys.length) : lc (xs.drop k) (ys.drop k) = 1 := by
 rw [List.drop_eq_getElem_cons h1, List.drop_of_length_le (Nat.le_of_eq h2.symm)]
 rfl
theorem lc_short {xs ys : List Mo} {k : Nat} (h1 : k = xs.length) (h2 : k < ys.length) : lc (xs.drop k) (ys.drop k) = -1 := by
 rw [List.drop_eq_getElem_cons h2, List.drop_of_length_le (Nat.le_of_eq h1.symm)]
 rfl
theorem lc_same {xs ys : List Mo} {k : Nat} (h1 : k = xs.length) (h2 : k = ys.length) : lc (xs.drop k) (ys.drop k) = 0 := by
 rw [List.drop_of_length_le (Nat.le_of_eq h1.symm), List.drop_of_length_le (Nat.le_of_eq h2.symm)]
 rfl
def cl (k : Int) (xs : List Mo) (k' : Int) (ys : List Mo) : Int := if lc xs ys = 0 then ic k k' else lc xs ys
theorem cl_swap (k : Int) (xs : List Mo) (k' : Int) (ys : List Mo) : cl k' ys k xs = - cl k xs k' ys := by
 unfold cl
 rw [lc_swap xs ys, ic_swap k k']
 split <;> split <;> omega
theorem cl_zero {k : Int} {xs : List Mo} {k' : Int} {ys : List Mo} : cl k xs k' ys = 0 ↔ k = k' /\ xs = ys := by
 unfold cl
 split
 ·rename_i h
  rw [ic_zero]
  exact ⟨fun h2 => ⟨h2, (lc_zero _ _).1 h⟩, fun h2 => h2.1⟩
 ·rename_i h
  exact ⟨fun h2 => absurd h2 h, fun h2 => absurd ((lc_zero _ _).2 h2.2) h⟩

end Go.Proofs.YtbicmlkjonaccaaDoor.Ln


namespace Go.Proofs.YtbicmlkjonaccaaDoor.Nm
open Go.ChangeShapes Go.WideShapes Go.ChangeAt Go.RowKit
set_option linter.unusedVariables false
set_option linter.unusedSimpArgs false
theorem ret_bool {a b : Bool} (h : a = b) : Ending.returned (.bool a) = .returned (.bool b) := by rw [h]
def kwL : List (List UInt8) := [[115, 105, 122, 101], [119, 104, 101, 114, 101], [105, 110], [100, 101, 102], [111, 117, 116], [115, 117, 109], [112, 114, 111, 100], [109, 105, 110], [109, 97, 120], [115, 99, 97, 110], [111, 118, 101, 114], [105, 102], [99, 97, 115, 116], [102, 114, 97, 99], [105, 110, 116], [102, 105, 120], [99, 101, 105, 108], [102, 108, 111, 111, 114], [122, 101, 114, 111], [101, 118, 101, 110], [115, 97, 116], [119, 114, 97, 112]]
def kwB (l : List UInt8) : Bool := kwL.contains l
theorem two {a b : Bool} (h : a = true) (h2 : a = false) : False := by rw [h] at h2; cases h2
set_option maxRecDepth 100000 in
set_option maxHeartbeats 4000000 in
theorem isKeyword (s : ByteArray) (w : World) : Calls Tryd.prog 85 #[.string s] w fun e w' => e = .returned (.bool (kwB s.toList)) /\ w = w' := by
 have HK : Hid (kwB s.toList = (s.toList == [115, 105, 122, 101] || (s.toList == [119, 104, 101, 114, 101] || (s.toList == [105, 110] || (s.toList == [100, 101, 102] || (s.toList == [111, 117, 116] || (s.toList == [115, 117, 109] || (s.toList == [112, 114, 111, 100] || (s.toList == [109, 105, 110] || (s.toList == [109, 97, 120] || (s.toList == [115, 99, 97, 110] || (s.toList == [111, 118, 101, 114] || (s.toList == [105, 102] || (s.toList == [99, 97, 115, 116] || (s.toList == [102, 114, 97, 99] || (s.toList == [105, 110, 116] || (s.toList == [102, 105, 120] || (s.toList == [99, 101, 105, 108] || (s.toList == [102, 108, 111, 111, 114] || (s.toList == [122, 101, 114, 111] || (s.toList == [101, 118, 101, 110] || (s.toList == [115, 97, 116] || (s.toList == [119, 114, 97, 112]))))))))))))))))))))))) := Lib.hid (by unfold kwB kwL; simp only [List.contains_cons, List.contains_nil, Bool.or_false])
 go_enter Tryd.func85, Tryd.ntmps85
 go_wp2
 all_goals
  first
  | (exfalso; simp_all; done)
  | (go_ret; refine ⟨ret_bool ?_, rfl⟩; rw [HK.out]; simp only [*, Bool.or_true, Bool.true_or, Bool.or_false])
end Go.Proofs.YtbicmlkjonaccaaDoor.Nm


namespace Go.Proofs.YtbicmlkjonaccaaDoor.Nm
open Go.ChangeShapes Go.WideShapes Go.ChangeAt Go.RowKit
set_option linter.unusedVariables false
set_option linter.unusedSimpArgs false
/-- A letter; a byte with which a word goes on. -/
def let1 (c : Int) : Bool := decide (97 <= c) && decide (c <= 122)
def wd (c : Int) : Bool := let1 c || ((decide (48 <= c) && decide (c <= 57)) || (c == 95))
theorem wordByte (c : Int) (w : World) (h0 : 0 <= c) (h1 : c <= 255) : Calls Tryd.prog 84 #[.int .u8 c] w fun e w' => e = .returned (.bool (wd c)) /\ w = w' := by
 go_enter Tryd.func84, Tryd.ntmps84
 go_wp2
 all_goals
  go_ret
  refine ⟨ret_bool ?_, rfl⟩
  unfold wd let1
  rw [Bool.eq_iff_iff]
  simp
  omega
def SlT (w : World) (p : Option Addr) (ls : List ByteArray) : Prop := ∀ i, i < ls.length -> ∃ b o, p = some ⟨b, o, none⟩ /\ w.cell? ⟨b, o + i, none⟩ = some (.string (ls.getD i ByteArray.empty))
set_option maxHeartbeats 4000000 in
theorem hasT (p : Option Addr) (ls : List ByteArray) (c : Nat) (s : ByteArray) (w : World) (hn : ls.length <= maxLen) (RA : Hid (SlT w p ls)) : Calls Tryd.prog 113 #[.slice p ls.length c, .string s] w fun e w' => e = .returned (.bool (ls.any fun k => k.toList == s.toList)) /\ w = w' := by
 unfold maxLen at hn
 go_enter Tryd.func113, Tryd.ntmps113
 go_wp2
 go_loop [5] (fun i => ∃ k : Nat, i = .int .i64 k /\ k <= ls.length /\ Hid (∀ j, j < k -> ((ls.getD j ByteArray.empty).toList == s.toList) = false)) (fun i => ls.length - (intOf i).toNat)
 case atStart => exact ⟨0, rfl, by omega, Lib.hid fun j hj => by omega⟩
 case round =>
  obtain ⟨k, rfl, hk, hL⟩ := hrel
  by_cases hlt : k < ls.length
  ·obtain ⟨b, o, rfl, hc⟩ := RA.out k hlt
   obtain ⟨x, hx⟩ : ∃ x, ls.getD k ByteArray.empty = x := ⟨_, rfl⟩
   rw [hx] at hc
   have HX := Lib.hid hx
   clear hx
   obtain ⟨t, ht⟩ : ∃ t, (x.toList == s.toList) = t := ⟨_, rfl⟩
   cases t
   ·have hL2 : Hid (∀ j, j < k + 1 -> ((ls.getD j ByteArray.empty).toList == s.toList) = false) := Lib.hid fun j hj => by
     rcases (by omega : j < k \/ j = k) with h | rfl
     ·exact hL.out j h
     ·rw [HX.out]; exact ht
    go_wp2
    go_round
    case rel => exact ⟨k + 1, by go_num, by omega, hL2⟩
    case measure => simp [intOf]; omega
   ·have e : (ls.any fun k => k.toList == s.toList) = true := by
     rw [List.any_eq_true]
     refine ⟨ls[k], List.getElem_mem hlt, ?_⟩
     have h2 := HX.out
     rw [List.getD, List.getElem?_eq_getElem hlt] at h2
     have h2 : ls[k] = x := h2
     rw [h2]; exact ht
    have E := Lib.hid e
    clear e
    go_wp2
    go_ret
    exact ⟨ret_bool E.out.symm, rfl⟩
  ·have e : (ls.any fun k => k.toList == s.toList) = false := by
    rw [List.any_eq_false]
    intro y hy
    obtain ⟨j, hj, rfl⟩ := List.getElem_of_mem hy
    have h := hL.out j (by omega)
    rw [List.getD, List.getElem?_eq_getElem hj] at h
    have h : (ls[j].toList == s.toList) = false := h
    rw [h]; simp
   have E := Lib.hid e
   clear e
   go_wp2
   go_ret
   exact ⟨ret_bool E.out.symm, rfl⟩
def bt (s : ByteArray) (k : Nat) : Int := if h : k < s.size then (s[k].toNat : Int) else 0
theorem bt_at {s : ByteArray} {k : Nat} (h : k < s.size) : bt s k = (s[k].toNat : Int) := dif_pos h

def nmB (s : ByteArray) : Bool := decide (1 <= s.size /\ s.size <= 16) && (let1 (bt s 0) && ((List.range s.size).all (fun k => wd (bt s k)) && !kwB s.toList))
set_option maxHeartbeats 4000000 in
theorem isName (s : ByteArray) (w : World) (hs : s.size <= maxLen) : Calls Tryd.prog 44 #[.string s] w fun e w' => e = .returned (.bool (nmB s)) /\ w = w' := by
 have KW := Lib.hid (isKeyword s)
 unfold maxLen at hs
 by_cases h1 : 1 <= s.size /\ s.size <= 16
 ·obtain ⟨h1, h2⟩ := h1
  have hx := bt_at (s := s) (k := 0) (by omega)
  have n1 : decide ((16 : Int) < s.size) = false := decide_eq_false (by omega)
  have n2 : decide (16 < s.size) = false := decide_eq_false (by omega)
  have n3 : ((s.size : Int) == 0) = false := beq_false_of_ne (by omega)
  have n4 : (s.size == 0) = false := beq_false_of_ne (by omega)
  have hpos : 0 < s.size := by omega
  by_cases hl : let1 (bt s 0) = true
  ·have hV : nmB s = ((List.range s.size).all (fun k => wd (bt s k)) && !kwB s.toList) := by unfold nmB; rw [decide_eq_true ⟨h1, h2⟩, hl]; rfl
   rw [hV]
   have hl2 : 97 <= bt s 0 /\ bt s 0 <= 122 := by unfold let1 at hl; simpa using hl
   rw [hx] at hl2
   obtain ⟨hl3, hl4⟩ := hl2
   have WB : Hid (∀ (k : Nat) (hk : k < s.size) (w : World), Calls Tryd.prog 84 #[.int .u8 (s[k].toNat : Int)] w fun e w' => e = .returned (.bool (wd (bt s k))) /\ w = w') := Lib.hid fun (k : Nat) (hk : k < s.size) (w : World) => by
    rw [bt_at hk]
    exact wordByte (s[k].toNat : Int) w (by omega) (by have := s[k].toNat_lt; omega)
   clear hV hl hx
   go_enter Tryd.func44, Tryd.ntmps44
   go_wp2
   go_loop [24] (fun i => ∃ k : Nat, i = .int .i64 k /\ k <= s.size /\ Hid (∀ j, j < k -> wd (bt s j) = true)) (fun i => s.size - (intOf i).toNat)
   case atStart => exact ⟨0, rfl, by omega, Lib.hid fun j hj => by omega⟩
   case round =>
    obtain ⟨k, rfl, hk, hL⟩ := hrel
    have kk : (0 : Int) <= k := by omega
    by_cases hlt : k < s.size
    ·have kn : (k : Int) < s.size := by omega
     have W1 := WB.out k hlt
     obtain ⟨t, ht⟩ : ∃ t, wd (bt s k) = t := ⟨_, rfl⟩
     rw [ht] at W1
     have W1 := Lib.hid W1
     have HT := Lib.hid ht
     clear ht
     cases t
     ·have e : ((List.range s.size).all (fun k => wd (bt s k)) && !kwB s.toList) = false := by
       rw [Bool.and_eq_false_iff]
       left
       rw [List.all_eq_false]
       exact ⟨k, List.mem_range.2 hlt, by rw [HT.out]; simp⟩
      have E := Lib.hid e
      clear e
      go_wp2_with (go_at_call 84; refine (W1.out _).mono ?_; rintro e w' ⟨rfl, rfl⟩)
      go_ret
      exact ⟨ret_bool E.out.symm, rfl⟩
     ·have hL2 : Hid (∀ j, j < k + 1 -> wd (bt s j) = true) := Lib.hid fun j hj => by
       rcases (by omega : j < k \/ j = k) with h | rfl
       ·exact hL.out j h
       ·exact HT.out
      go_wp2_with (go_at_call 84; refine (W1.out _).mono ?_; rintro e w' ⟨rfl, rfl⟩)
      go_round
      case rel => exact ⟨k + 1, by go_num, by omega, hL2⟩
      case measure => simp [intOf]; omega
    ·have e : ((List.range s.size).all (fun k => wd (bt s k)) && !kwB s.toList) = !kwB s.toList := by
      have : (List.range s.size).all (fun k => wd (bt s k)) = true := by
       rw [List.all_eq_true]
       intro j hj
       exact hL.out j (by have := List.mem_range.1 hj; omega)
      rw [this]; rfl
     have E := Lib.hid e
     clear e
     go_wp2_with (go_at_call 85; refine (KW.out _).mono ?_; rintro e w' ⟨rfl, rfl⟩)
     go_ret
     exact ⟨ret_bool E.out.symm, rfl⟩
  ·have e : nmB s = false := by unfold nmB; simp [hl]
   rw [e]
   have hl2 : ¬ (97 <= bt s 0 /\ bt s 0 <= 122) := fun h => hl (by unfold let1; simpa using h)
   rw [hx] at hl2
   clear e hl hx
   go_enter Tryd.func44, Tryd.ntmps44
   go_wp2
   all_goals
    go_ret
    exact ⟨rfl, rfl⟩
 ·have e : nmB s = false := by unfold nmB; rw [decide_eq_false h1]; rfl
  rw [e]
  clear e
  by_cases h0 : s.size = 0
  ·have n3 : ((s.size : Int) == 0) = true := beq_iff_eq.2 (by omega)
   have n4 : (s.size == 0) = true := beq_iff_eq.2 h0
   clear h1
   have H0 := Lib.hid h0
   clear h0
   go_enter Tryd.func44, Tryd.ntmps44
   go_wp2
   go_ret
   exact ⟨rfl, rfl⟩
  ·have n1 : decide ((16 : Int) < s.size) = true := decide_eq_true (by omega)
   have n2 : decide (16 < s.size) = true := decide_eq_true (by omega)
   have n3 : ((s.size : Int) == 0) = false := beq_false_of_ne (by omega)
   have n4 : (s.size == 0) = false := beq_false_of_ne h0
   clear h1
   go_enter Tryd.func44, Tryd.ntmps44
   go_wp2
   go_ret
   exact ⟨rfl, rfl⟩
end Go.Proofs.YtbicmlkjonaccaaDoor.Nm


namespace Go.Proofs.YtbicmlkjonaccaaDoor.Nm
open Go.ChangeShapes Go.WideShapes Go.ChangeAt Go.RowKit
set_option linter.unusedVariables false
set_option linter.unusedSimpArgs false
def kwb : List ByteArray := [⟨#[115, 105, 122, 101]⟩, ⟨#[119, 104, 101, 114, 101]⟩, ⟨#[105, 110]⟩, ⟨#[100, 101, 102]⟩, ⟨#[111, 117, 116]⟩, ⟨#[115, 117, 109]⟩, ⟨#[112, 114, 111, 100]⟩, ⟨#[109, 105, 110]⟩, ⟨#[109, 97, 120]⟩, ⟨#[115, 99, 97, 110]⟩, ⟨#[111, 118, 101, 114]⟩, ⟨#[105, 102]⟩, ⟨#[99, 97, 115, 116]⟩, ⟨#[102, 114, 97, 99]⟩, ⟨#[105, 110, 116]⟩, ⟨#[102, 105, 120]⟩, ⟨#[99, 101, 105, 108]⟩, ⟨#[102, 108, 111, 111, 114]⟩, ⟨#[122, 101, 114, 111]⟩, ⟨#[101, 118, 101, 110]⟩, ⟨#[115, 97, 116]⟩, ⟨#[119, 114, 97, 112]⟩]
theorem kwb_any (l : List UInt8) : (kwb.any fun k => k.toList == l) = kwB l := by
 have e : kwL = kwb.map ByteArray.toList := by simp [kwL, kwb, ByteArray.toList_eq]
 unfold kwB
 rw [e, List.contains_eq_any_beq, List.any_map]
 congr 1
 funext k
 exact Bool.eq_iff_iff.2 (by simp only [beq_iff_eq, Function.comp]; exact eq_comm)
theorem words_cells (w : World) : SlT (w.alloc (Obj.cells #[Value.string ⟨#[115, 105, 122, 101]⟩, Value.string ⟨#[119, 104, 101, 114, 101]⟩, Value.string ⟨#[105, 110]⟩, Value.string ⟨#[100, 101, 102]⟩, Value.string ⟨#[111, 117, 116]⟩, Value.string ⟨#[115, 117, 109]⟩, Value.string ⟨#[112, 114, 111, 100]⟩, Value.string ⟨#[109, 105, 110]⟩, Value.string ⟨#[109, 97, 120]⟩, Value.string ⟨#[115, 99, 97, 110]⟩, Value.string ⟨#[111, 118, 101, 114]⟩, Value.string ⟨#[105, 102]⟩, Value.string ⟨#[99, 97, 115, 116]⟩, Value.string ⟨#[102, 114, 97, 99]⟩, Value.string ⟨#[105, 110, 116]⟩, Value.string ⟨#[102, 105, 120]⟩, Value.string ⟨#[99, 101, 105, 108]⟩, Value.string ⟨#[102, 108, 111, 111, 114]⟩, Value.string ⟨#[122, 101, 114, 111]⟩, Value.string ⟨#[101, 118, 101, 110]⟩, Value.string ⟨#[115, 97, 116]⟩, Value.string ⟨#[119, 114, 97, 112]⟩] 9)) (some ⟨w.heap.size, 0, none⟩) kwb := fun i hi => by
 refine ⟨w.heap.size, 0, rfl, ?_⟩
 have : i = 0 \/ i = 1 \/ i = 2 \/ i = 3 \/ i = 4 \/ i = 5 \/ i = 6 \/ i = 7 \/ i = 8 \/ i = 9 \/ i = 10 \/ i = 11 \/ i = 12 \/ i = 13 \/ i = 14 \/ i = 15 \/ i = 16 \/ i = 17 \/ i = 18 \/ i = 19 \/ i = 20 \/ i = 21 := by simp [kwb] at hi; omega
 rcases this with rfl | rfl | rfl | rfl | rfl | rfl | rfl | rfl | rfl | rfl | rfl | rfl | rfl | rfl | rfl | rfl | rfl | rfl | rfl | rfl | rfl | rfl
 ·show World.cell? _ _ = some (.string ⟨#[115, 105, 122, 101]⟩); go_cell
 ·show World.cell? _ _ = some (.string ⟨#[119, 104, 101, 114, 101]⟩); go_cell
 ·show World.cell? _ _ = some (.string ⟨#[105, 110]⟩); go_cell
 ·show World.cell? _ _ = some (.string ⟨#[100, 101, 102]⟩); go_cell
 ·show World.cell? _ _ = some (.string ⟨#[111, 117, 116]⟩); go_cell
 ·show World.cell? _ _ = some (.string ⟨#[115, 117, 109]⟩); go_cell
 ·show World.cell? _ _ = some (.string ⟨#[112, 114, 111, 100]⟩); go_cell
 ·show World.cell? _ _ = some (.string ⟨#[109, 105, 110]⟩); go_cell
 ·show World.cell? _ _ = some (.string ⟨#[109, 97, 120]⟩); go_cell
 ·show World.cell? _ _ = some (.string ⟨#[115, 99, 97, 110]⟩); go_cell
 ·show World.cell? _ _ = some (.string ⟨#[111, 118, 101, 114]⟩); go_cell
 ·show World.cell? _ _ = some (.string ⟨#[105, 102]⟩); go_cell
 ·show World.cell? _ _ = some (.string ⟨#[99, 97, 115, 116]⟩); go_cell
 ·show World.cell? _ _ = some (.string ⟨#[102, 114, 97, 99]⟩); go_cell
 ·show World.cell? _ _ = some (.string ⟨#[105, 110, 116]⟩); go_cell
 ·show World.cell? _ _ = some (.string ⟨#[102, 105, 120]⟩); go_cell
 ·show World.cell? _ _ = some (.string ⟨#[99, 101, 105, 108]⟩); go_cell
 ·show World.cell? _ _ = some (.string ⟨#[102, 108, 111, 111, 114]⟩); go_cell
 ·show World.cell? _ _ = some (.string ⟨#[122, 101, 114, 111]⟩); go_cell
 ·show World.cell? _ _ = some (.string ⟨#[101, 118, 101, 110]⟩); go_cell
 ·show World.cell? _ _ = some (.string ⟨#[115, 97, 116]⟩); go_cell
 ·show World.cell? _ _ = some (.string ⟨#[119, 114, 97, 112]⟩); go_cell
theorem words (w : World) : Calls Tryd.prog 114 #[] w fun e w' => e = .returned (.slice (some ⟨w.heap.size, 0, none⟩) 22 22) /\ w' = w.alloc (Obj.cells #[Value.string ⟨#[115, 105, 122, 101]⟩, Value.string ⟨#[119, 104, 101, 114, 101]⟩, Value.string ⟨#[105, 110]⟩, Value.string ⟨#[100, 101, 102]⟩, Value.string ⟨#[111, 117, 116]⟩, Value.string ⟨#[115, 117, 109]⟩, Value.string ⟨#[112, 114, 111, 100]⟩, Value.string ⟨#[109, 105, 110]⟩, Value.string ⟨#[109, 97, 120]⟩, Value.string ⟨#[115, 99, 97, 110]⟩, Value.string ⟨#[111, 118, 101, 114]⟩, Value.string ⟨#[105, 102]⟩, Value.string ⟨#[99, 97, 115, 116]⟩, Value.string ⟨#[102, 114, 97, 99]⟩, Value.string ⟨#[105, 110, 116]⟩, Value.string ⟨#[102, 105, 120]⟩, Value.string ⟨#[99, 101, 105, 108]⟩, Value.string ⟨#[102, 108, 111, 111, 114]⟩, Value.string ⟨#[122, 101, 114, 111]⟩, Value.string ⟨#[101, 118, 101, 110]⟩, Value.string ⟨#[115, 97, 116]⟩, Value.string ⟨#[119, 114, 97, 112]⟩] 9) := by
 go_enter Tryd.func114, Tryd.ntmps114
 go_wp2
 go_ret
 exact ⟨rfl, rfl⟩
theorem hasWords (s : ByteArray) (w : World) : Calls Tryd.prog 113 #[.slice (some ⟨w.heap.size, 0, none⟩) 22 22, .string s] (w.alloc (Obj.cells #[Value.string ⟨#[115, 105, 122, 101]⟩, Value.string ⟨#[119, 104, 101, 114, 101]⟩, Value.string ⟨#[105, 110]⟩, Value.string ⟨#[100, 101, 102]⟩, Value.string ⟨#[111, 117, 116]⟩, Value.string ⟨#[115, 117, 109]⟩, Value.string ⟨#[112, 114, 111, 100]⟩, Value.string ⟨#[109, 105, 110]⟩, Value.string ⟨#[109, 97, 120]⟩, Value.string ⟨#[115, 99, 97, 110]⟩, Value.string ⟨#[111, 118, 101, 114]⟩, Value.string ⟨#[105, 102]⟩, Value.string ⟨#[99, 97, 115, 116]⟩, Value.string ⟨#[102, 114, 97, 99]⟩, Value.string ⟨#[105, 110, 116]⟩, Value.string ⟨#[102, 105, 120]⟩, Value.string ⟨#[99, 101, 105, 108]⟩, Value.string ⟨#[102, 108, 111, 111, 114]⟩, Value.string ⟨#[122, 101, 114, 111]⟩, Value.string ⟨#[101, 118, 101, 110]⟩, Value.string ⟨#[115, 97, 116]⟩, Value.string ⟨#[119, 114, 97, 112]⟩] 9)) fun e w' => e = .returned (.bool (kwB s.toList)) /\ (w.alloc (Obj.cells #[Value.string ⟨#[115, 105, 122, 101]⟩, Value.string ⟨#[119, 104, 101, 114, 101]⟩, Value.string ⟨#[105, 110]⟩, Value.string ⟨#[100, 101, 102]⟩, Value.string ⟨#[111, 117, 116]⟩, Value.string ⟨#[115, 117, 109]⟩, Value.string ⟨#[112, 114, 111, 100]⟩, Value.string ⟨#[109, 105, 110]⟩, Value.string ⟨#[109, 97, 120]⟩, Value.string ⟨#[115, 99, 97, 110]⟩, Value.string ⟨#[111, 118, 101, 114]⟩, Value.string ⟨#[105, 102]⟩, Value.string ⟨#[99, 97, 115, 116]⟩, Value.string ⟨#[102, 114, 97, 99]⟩, Value.string ⟨#[105, 110, 116]⟩, Value.string ⟨#[102, 105, 120]⟩, Value.string ⟨#[99, 101, 105, 108]⟩, Value.string ⟨#[102, 108, 111, 111, 114]⟩, Value.string ⟨#[122, 101, 114, 111]⟩, Value.string ⟨#[101, 118, 101, 110]⟩, Value.string ⟨#[115, 97, 116]⟩, Value.string ⟨#[119, 114, 97, 112]⟩] 9)) = w' := by
 have h := hasT (some ⟨w.heap.size, 0, none⟩) kwb 22 s (w.alloc (Obj.cells #[Value.string ⟨#[115, 105, 122, 101]⟩, Value.string ⟨#[119, 104, 101, 114, 101]⟩, Value.string ⟨#[105, 110]⟩, Value.string ⟨#[100, 101, 102]⟩, Value.string ⟨#[111, 117, 116]⟩, Value.string ⟨#[115, 117, 109]⟩, Value.string ⟨#[112, 114, 111, 100]⟩, Value.string ⟨#[109, 105, 110]⟩, Value.string ⟨#[109, 97, 120]⟩, Value.string ⟨#[115, 99, 97, 110]⟩, Value.string ⟨#[111, 118, 101, 114]⟩, Value.string ⟨#[105, 102]⟩, Value.string ⟨#[99, 97, 115, 116]⟩, Value.string ⟨#[102, 114, 97, 99]⟩, Value.string ⟨#[105, 110, 116]⟩, Value.string ⟨#[102, 105, 120]⟩, Value.string ⟨#[99, 101, 105, 108]⟩, Value.string ⟨#[102, 108, 111, 111, 114]⟩, Value.string ⟨#[122, 101, 114, 111]⟩, Value.string ⟨#[101, 118, 101, 110]⟩, Value.string ⟨#[115, 97, 116]⟩, Value.string ⟨#[119, 114, 97, 112]⟩] 9)) (by unfold maxLen; decide) (Lib.hid (words_cells w))
 rw [kwb_any] at h
 exact h
theorem nmB_no {s : ByteArray} (h : ¬ (1 <= s.size /\ s.size <= 16)) : nmB s = false := by unfold nmB; rw [decide_eq_false h]; rfl
/-- A byte at a place of a name. -/
def okc (i : Nat) (c : Int) : Bool := let1 c || (decide (0 < i) && ((decide (48 <= c) && decide (c <= 57)) || (c == 95)))
theorem okc_wd {s : ByteArray} (h : 1 <= s.size) : (let1 (bt s 0) && (List.range s.size).all (fun k => wd (bt s k))) = (List.range s.size).all (fun k => okc k (bt s k)) := by
 rw [Bool.eq_iff_iff, Bool.and_eq_true, List.all_eq_true, List.all_eq_true]
 constructor
 ·rintro ⟨h1, h2⟩ k hk
  have := h2 k hk
  by_cases h0 : k = 0
  ·subst h0; unfold okc; rw [h1]; rfl
  ·unfold okc; unfold wd at this; rw [decide_eq_true (show 0 < k by omega)]; simpa using this
 ·intro h1
  have h0 := h1 0 (List.mem_range.2 (by omega))
  refine ⟨by unfold okc at h0; simpa using h0, fun k hk => ?_⟩
  have := h1 k hk
  unfold okc at this
  unfold wd
  rw [Bool.or_eq_true] at this ⊢
  rcases this with h | h
  ·exact .inl h
  ·rw [Bool.and_eq_true] at h; exact .inr h.2
theorem nm_bad {s : ByteArray} {k : Nat} (hk : k < s.size) (h : okc k (bt s k) = false) : ((List.range s.size).all (fun k => okc k (bt s k))) = false := by
 rw [List.all_eq_false]
 exact ⟨k, List.mem_range.2 hk, by rw [h]; simp⟩
theorem nm_all {s : ByteArray} {k : Nat} (hk : k = s.size) (h : ∀ j, j < k -> okc j (bt s j) = true) : ((List.range s.size).all (fun k => okc k (bt s k))) = true := by
 rw [List.all_eq_true]
 intro j hj
 exact h j (by have := List.mem_range.1 hj; omega)
set_option maxHeartbeats 8000000 in
theorem name (s : ByteArray) (w : World) (hs : s.size <= maxLen) : Calls Tryd.prog 86 #[.string s] w fun e w' => e = .returned (.bool (nmB s)) /\ Below w.heap.size w w' := by
  have HW := Lib.hid (hasWords s w)
  unfold maxLen at hs
  by_cases h1 : 1 <= s.size /\ s.size <= 16
  · obtain ⟨h1, h2⟩ := h1
    have m1 : decide ((s.size : Int) < 1) = false := decide_eq_false (by omega)
    have m2 : decide (s.size < 1) = false := decide_eq_false (by omega)
    have n1 : decide ((16 : Int) < s.size) = false := decide_eq_false (by omega)
    have n2 : decide (16 < s.size) = false := decide_eq_false (by omega)
    have n3 : (s.size == 0) = false := beq_false_of_ne (by omega)
    have hV : nmB s = ((List.range s.size).all (fun k => okc k (bt s k)) && !kwB s.toList) := by rw [<- okc_wd h1]; unfold nmB; rw [decide_eq_true ⟨h1, h2⟩, Bool.true_and, Bool.and_assoc]
    rw [hV]
    have BE := Lib.hid fun (k : Nat) (hk : k < s.size) => bt_at hk
    have BK : Below w.heap.size w (w.alloc (Obj.cells #[Value.string ⟨#[115, 105, 122, 101]⟩, Value.string ⟨#[119, 104, 101, 114, 101]⟩, Value.string ⟨#[105, 110]⟩, Value.string ⟨#[100, 101, 102]⟩, Value.string ⟨#[111, 117, 116]⟩, Value.string ⟨#[115, 117, 109]⟩, Value.string ⟨#[112, 114, 111, 100]⟩, Value.string ⟨#[109, 105, 110]⟩, Value.string ⟨#[109, 97, 120]⟩, Value.string ⟨#[115, 99, 97, 110]⟩, Value.string ⟨#[111, 118, 101, 114]⟩, Value.string ⟨#[105, 102]⟩, Value.string ⟨#[99, 97, 115, 116]⟩, Value.string ⟨#[102, 114, 97, 99]⟩, Value.string ⟨#[105, 110, 116]⟩, Value.string ⟨#[102, 105, 120]⟩, Value.string ⟨#[99, 101, 105, 108]⟩, Value.string ⟨#[102, 108, 111, 111, 114]⟩, Value.string ⟨#[122, 101, 114, 111]⟩, Value.string ⟨#[101, 118, 101, 110]⟩, Value.string ⟨#[115, 97, 116]⟩, Value.string ⟨#[119, 114, 97, 112]⟩] 9)) := (Below.refl _ _).alloc (Nat.le_refl _) _
    obtain ⟨q, hq⟩ : ∃ q, kwB s.toList = q := ⟨_, rfl⟩
    rw [hq] at HW ⊢
    clear hV hq
    cases q
    · rw [Bool.not_false, Bool.and_true]
      go_enter Tryd.func86, Tryd.ntmps86
      go_wp2_with (first | (go_at_call 114; refine (words _).mono ?_; rintro e w' ⟨rfl, rfl⟩) | (go_at_call 113; refine (HW.out).mono ?_; rintro e w' ⟨rfl, rfl⟩))
      generalize w.alloc (Obj.cells #[Value.string ⟨#[115, 105, 122, 101]⟩, Value.string ⟨#[119, 104, 101, 114, 101]⟩, Value.string ⟨#[105, 110]⟩, Value.string ⟨#[100, 101, 102]⟩, Value.string ⟨#[111, 117, 116]⟩, Value.string ⟨#[115, 117, 109]⟩, Value.string ⟨#[112, 114, 111, 100]⟩, Value.string ⟨#[109, 105, 110]⟩, Value.string ⟨#[109, 97, 120]⟩, Value.string ⟨#[115, 99, 97, 110]⟩, Value.string ⟨#[111, 118, 101, 114]⟩, Value.string ⟨#[105, 102]⟩, Value.string ⟨#[99, 97, 115, 116]⟩, Value.string ⟨#[102, 114, 97, 99]⟩, Value.string ⟨#[105, 110, 116]⟩, Value.string ⟨#[102, 105, 120]⟩, Value.string ⟨#[99, 101, 105, 108]⟩, Value.string ⟨#[102, 108, 111, 111, 114]⟩, Value.string ⟨#[122, 101, 114, 111]⟩, Value.string ⟨#[101, 118, 101, 110]⟩, Value.string ⟨#[115, 97, 116]⟩, Value.string ⟨#[119, 114, 97, 112]⟩] 9) = wa at *
      go_loop [3] (fun i => ∃ k : Nat, i = .int .i64 k /\ k <= s.size /\ Hid (∀ j, j < k -> okc j (bt s j) = true)) (fun i => s.size - (intOf i).toNat)
      case atStart => exact ⟨0, rfl, by omega, Lib.hid fun j hj => by omega⟩
      case round =>
        obtain ⟨k, rfl, hk, hL⟩ := hrel
        have kk : (0 : Int) <= k := by omega
        by_cases hlt : k < s.size
        · have kn : (k : Int) < s.size := by omega
          have hbt := bt_at hlt
          have HBT := Lib.hid hbt
          clear hbt
          rcases (by omega : (s[k].toNat : Int) < 48 \/ (48 <= (s[k].toNat : Int) /\ (s[k].toNat : Int) <= 57) \/ (57 < (s[k].toNat : Int) /\ (s[k].toNat : Int) < 97) \/ (97 <= (s[k].toNat : Int) /\ (s[k].toNat : Int) <= 122) \/ 122 < (s[k].toNat : Int)) with h | ⟨h, h'⟩ | ⟨h, h'⟩ | ⟨h, h'⟩ | h
          all_goals
            by_cases k0 : k = 0
            all_goals
              first | have kz : (0 : Int) < k := by omega | have kz : (k : Int) <= 0 := by omega
              go_wp2
              all_goals first
                | (have ho : okc k (bt s k) = false := by
                     rw [HBT.out]; unfold okc let1
                     first | (simp; omega) | (simp_all; done) | (simp_all; omega)
                   go_ret
                   exact ⟨ret_bool (nm_bad hlt ho).symm, BK⟩)
                | (have ho : okc k (bt s k) = true := by
                     rw [HBT.out]; unfold okc let1
                     first | (simp; omega) | (simp_all; done) | (simp_all; omega)
                   have hL2 : Hid (∀ j, j < k + 1 -> okc j (bt s j) = true) := Lib.hid fun j hj => by
                     rcases (by omega : j < k \/ j = k) with h | rfl
                     · exact hL.out j h
                     · exact ho
                   clear ho
                   go_round
                   case rel => exact ⟨k + 1, by go_num, by omega, hL2⟩
                   case measure => simp [intOf]; omega)
                | (exfalso; omega)
                | (exfalso; simp_all; done)
        · have E := Lib.hid (nm_all (k := k) (by omega) hL.out)
          go_wp2
          go_ret
          exact ⟨ret_bool E.out.symm, BK⟩
    · go_enter Tryd.func86, Tryd.ntmps86
      go_wp2_with (first | (go_at_call 114; refine (words _).mono ?_; rintro e w' ⟨rfl, rfl⟩) | (go_at_call 113; refine (HW.out).mono ?_; rintro e w' ⟨rfl, rfl⟩))
      go_ret
      exact ⟨ret_bool (by simp), BK⟩
  · rw [nmB_no h1]
    by_cases h0 : s.size < 1
    · have m1 : decide ((s.size : Int) < 1) = true := decide_eq_true (by omega)
      have m2 : decide (s.size < 1) = true := decide_eq_true (by omega)
      clear h1
      go_enter Tryd.func86, Tryd.ntmps86
      go_wp2
      go_ret
      exact ⟨rfl, Below.refl _ _⟩
    · have m1 : decide ((s.size : Int) < 1) = false := decide_eq_false (by omega)
      have m2 : decide (s.size < 1) = false := decide_eq_false (by omega)
      have n1 : decide ((16 : Int) < s.size) = true := decide_eq_true (by omega)
      have n2 : decide (16 < s.size) = true := decide_eq_true (by omega)
      clear h1
      go_enter Tryd.func86, Tryd.ntmps86
      go_wp2
      go_ret
      exact ⟨rfl, Below.refl _ _⟩
end Go.Proofs.YtbicmlkjonaccaaDoor.Nm


namespace Go.Proofs
open Go.Shelf

def Tryd.lays170_ren : Go.Shelf.Ren := ⟨fun | 170 => 87 | n => n, fun | 70 => 65 | 3 => 3 | 0 => 0 | 72 => 68 | 37 => 66 | 5 => 5 | n => n, fun | n => n⟩

theorem Tryd.lays170 : Go.Proofs.Lays.n170 Tryd.prog Tryd.lays170_ren := {
 mixed := by kernel_rfl
 f170 := Tryd.func87.trans (congrArg some (by kernel_rfl))
 t0 := Tryd.underlying0
 a0 := Tryd.isAgg0
 z0 := Tryd.sizeOf0
 v0 := Tryd.zeroValue0
 t3 := Tryd.underlying3
 a3 := Tryd.isAgg3
 z3 := Tryd.sizeOf3
 v3 := Tryd.zeroValue3
 t37 := Tryd.underlying66
 a37 := Tryd.isAgg66
 z37 := Tryd.sizeOf66
 v37 := Tryd.zeroValue66
 t70 := Tryd.underlying65
 a70 := Tryd.isAgg65
 z70 := Tryd.sizeOf65
 v70 := Tryd.zeroValue65
 t72 := Tryd.underlying68
 a72 := Tryd.isAgg68
 z72 := Tryd.sizeOf68
 v72 := Tryd.zeroValue68 }

open Go.RowKit in
/-- (*strings.Builder).Len: "Len returns the number of accumulated bytes; b.Len() == len(b.String()).": the world is as it was. (LAID: no walk: one application.) -/
theorem Tryd.Builder_Len (B b : Nat) (bs : List Value) (w : World) (h : Lib.IsBuilder 68 5 B b bs w) :
  Calls Tryd.prog 87 #[.pointer (some ⟨b, 0, none⟩)] w fun e w' => e = .returned (.int .i64 bs.length) /\ w' = w := Any.Builder_Len Tryd.lays170 B b bs w h

def Tryd.lays169_ren : Go.Shelf.Ren := ⟨fun | 169 => 49 | n => n, fun | 70 => 65 | 9 => 9 | 0 => 0 | 72 => 68 | 37 => 66 | 127 => 112 | 3 => 3 | 5 => 5 | n => n, fun | n => n⟩

theorem Tryd.lays169 : Go.Proofs.Lays.n169 Tryd.prog Tryd.lays169_ren := {
 mixed := by kernel_rfl
 f169 := Tryd.func49.trans (congrArg some (by kernel_rfl))
 t0 := Tryd.underlying0
 a0 := Tryd.isAgg0
 z0 := Tryd.sizeOf0
 v0 := Tryd.zeroValue0
 t3 := Tryd.underlying3
 a3 := Tryd.isAgg3
 z3 := Tryd.sizeOf3
 v3 := Tryd.zeroValue3
 t9 := Tryd.underlying9
 a9 := Tryd.isAgg9
 z9 := Tryd.sizeOf9
 v9 := Tryd.zeroValue9
 t37 := Tryd.underlying66
 a37 := Tryd.isAgg66
 z37 := Tryd.sizeOf66
 v37 := Tryd.zeroValue66
 t70 := Tryd.underlying65
 a70 := Tryd.isAgg65
 z70 := Tryd.sizeOf65
 v70 := Tryd.zeroValue65
 t72 := Tryd.underlying68
 a72 := Tryd.isAgg68
 z72 := Tryd.sizeOf68
 v72 := Tryd.zeroValue68
 t127 := Tryd.underlying112
 a127 := Tryd.isAgg112
 z127 := Tryd.sizeOf112
 v127 := Tryd.zeroValue112 }

theorem Tryd.Builder_Extra_169 : Builder.Extra Tryd.prog Tryd.lays169_ren := {
 sizeBuilder := by kernel_rfl
 liesBuilder := by kernel_rfl
 t5 := Tryd.underlying5
 a5 := Tryd.isAgg5
 z5 := Tryd.sizeOf5
 v5 := Tryd.zeroValue5
 infoByte := by kernel_rfl
 cellsByte := by kernel_rfl
 sizeByte := by kernel_rfl
 neB5 := by decide }

open Go.RowKit in
/-- (*strings.Builder).String: "String returns the accumulated string.": WHATEVER THE BUILDER HOLDS. (LAID: no walk: one application.) -/
theorem Tryd.Builder_String_any (B b : Nat) (l : List UInt8) (w : World) (h : Lib.IsBuilder 68 5 B b (Lib.byteCells l) w) (hBw : B <= w.heap.size) :
  Calls Tryd.prog 49 #[.pointer (some ⟨b, 0, none⟩)] w fun e w' => e = .returned (.string ⟨l.toArray⟩) /\ Below B w w' := Any.Builder_String_any Tryd.lays169 Tryd.Builder_Extra_169 B b l w h hBw

def Tryd.lays106_ren : Go.Shelf.Ren := ⟨fun | 106 => 106 | 213 => 122 | 265 => 129 | n => n, fun | 9 => 9 | 3 => 3 | n => n, fun | n => n⟩

theorem Tryd.lays106 : Go.Proofs.Lays.n106 Tryd.prog Tryd.lays106_ren := {
 mixed := by kernel_rfl
 f106 := Tryd.func106.trans (congrArg some (by kernel_rfl))
 f213 := Tryd.func122.trans (congrArg some (by kernel_rfl))
 f265 := Tryd.func129.trans (congrArg some (by kernel_rfl))
 t3 := Tryd.underlying3
 a3 := Tryd.isAgg3
 z3 := Tryd.sizeOf3
 v3 := Tryd.zeroValue3
 t9 := Tryd.underlying9
 a9 := Tryd.isAgg9
 z9 := Tryd.sizeOf9
 v9 := Tryd.zeroValue9 }

open Go.RowKit in
/-- strings.Compare: "Compare returns an integer comparing two strings lexicographically. The result will be 0 if a == b, -1 if a < b, and +1 if a > b.": IT RETURNS 'Lib.compareBytes a b'; the world is as it was. (LAID: no walk: one application.) -/
theorem Tryd.strings_Compare (a b : ByteArray) (w : World) :
  Calls Tryd.prog 106 #[.string a, .string b] w fun e w' => e = .returned (.int .i64 (Lib.compareBytes a.data.toList b.data.toList)) /\ w' = w := Any.strings_Compare Tryd.lays106 a b w

def Tryd.lays283_ren : Go.Shelf.Ren := ⟨fun | 283 => 124 | n => n, fun | 3 => 3 | 9 => 9 | 4 => 4 | n => n, fun | n => n⟩

theorem Tryd.lays283 : Go.Proofs.Lays.n283 Tryd.prog Tryd.lays283_ren := {
 mixed := by kernel_rfl
 f283 := Tryd.func124.trans (congrArg some (by kernel_rfl))
 t3 := Tryd.underlying3
 a3 := Tryd.isAgg3
 z3 := Tryd.sizeOf3
 v3 := Tryd.zeroValue3
 t4 := Tryd.underlying4
 a4 := Tryd.isAgg4
 z4 := Tryd.sizeOf4
 v4 := Tryd.zeroValue4
 t9 := Tryd.underlying9
 a9 := Tryd.isAgg9
 z9 := Tryd.sizeOf9
 v9 := Tryd.zeroValue9 }

open Go.Lib in
/-- internal/strconv.small: "small returns the string for an i with 0 <= i < nSmalls.": i's decimal numeral. The world is as it was. (LAID: no walk: one application.) -/
theorem Tryd.internal_strconv_small (i : Nat) (h : i < 100) (w : World) :
  Calls Tryd.prog 124 #[.int .i64 i] w fun e w' => e = .returned (.string ⟨(Lib.decDigits i).toArray⟩) /\ w' = w := Any.internal_strconv_small Tryd.lays283 i h w

def Tryd.laysM284_ren : Go.Shelf.Ren := ⟨fun | 284 => 125 | 129 => 131 | 317 => 130 | 318 => 132 | n => n, fun | 53 => 76 | 3 => 3 | 212 => 156 | 0 => 0 | 4 => 4 | 46 => 119 | 5 => 5 | 9 => 9 | n => n, fun | 17 => 1 | n => n⟩

theorem Tryd.laysM284 : Go.Proofs.LaysM.n284 Tryd.prog Tryd.laysM284_ren := {
 mixed := by kernel_rfl
 f129 := Tryd.func131.trans (congrArg some (by kernel_rfl))
 f284 := Tryd.func125.trans (congrArg some (by kernel_rfl))
 f317 := Tryd.func130.trans (congrArg some (by kernel_rfl))
 f318 := Tryd.func132.trans (congrArg some (by kernel_rfl))
 t0 := Tryd.underlying0
 a0 := Tryd.isAgg0
 z0 := Tryd.sizeOf0
 v0 := Tryd.zeroValue0
 t3 := Tryd.underlying3
 a3 := Tryd.isAgg3
 z3 := Tryd.sizeOf3
 v3 := Tryd.zeroValue3
 t4 := Tryd.underlying4
 a4 := Tryd.isAgg4
 z4 := Tryd.sizeOf4
 v4 := Tryd.zeroValue4
 t5 := Tryd.underlying5
 a5 := Tryd.isAgg5
 z5 := Tryd.sizeOf5
 v5 := Tryd.zeroValue5
 t9 := Tryd.underlying9
 a9 := Tryd.isAgg9
 z9 := Tryd.sizeOf9
 v9 := Tryd.zeroValue9
 t46 := Tryd.underlying119
 a46 := Tryd.isAgg119
 z46 := Tryd.sizeOf119
 v46 := Tryd.zeroValue119
 t53 := Tryd.underlying76
 a53 := Tryd.isAgg76
 z53 := Tryd.sizeOf76
 v53 := Tryd.zeroValue76
 t212 := Tryd.underlying156
 a212 := Tryd.isAgg156
 z212 := Tryd.sizeOf156
 v212 := Tryd.zeroValue156
 g17 := by kernel_rfl
 i0 := by kernel_rfl
 i3 := by kernel_rfl
 i4 := by kernel_rfl
 i5 := by kernel_rfl
 i9 := by kernel_rfl
 i46 := by kernel_rfl
 i53 := by kernel_rfl
 i212 := by kernel_rfl
 m17 := by kernel_rfl }

open Go.Lib in
/-- internal/strconv.numDigits, at a d that is not 0: THE NUMBER OF d's DECIMAL DIGITS. The world is as it was. (LAID: no walk: one application.) -/
theorem Tryd.internal_strconv_numDigits (u : Nat) (h1 : 1 <= u) (h2 : u < 18446744073709551616) (w : World) (htab : Lib.TabIs Tryd.prog w "internal/strconv.uint64pow10" .u64 Lib.pow10Tab) :
  Calls Tryd.prog 125 #[.int .u64 u] w fun e w' => e = .returned (.int .i64 (Lib.nDigits u)) /\ w' = w := Any.internal_strconv_numDigits Tryd.laysM284 u h1 h2 w htab

def Tryd.lays285_ren : Go.Shelf.Ren := ⟨fun | 285 => 126 | n => n, fun | 37 => 66 | 53 => 76 | 3 => 3 | 4 => 4 | 51 => 157 | 9 => 9 | 5 => 5 | 0 => 0 | n => n, fun | n => n⟩

theorem Tryd.lays285 : Go.Proofs.Lays.n285 Tryd.prog Tryd.lays285_ren := {
 mixed := by kernel_rfl
 f285 := Tryd.func126.trans (congrArg some (by kernel_rfl))
 t0 := Tryd.underlying0
 a0 := Tryd.isAgg0
 z0 := Tryd.sizeOf0
 v0 := Tryd.zeroValue0
 t3 := Tryd.underlying3
 a3 := Tryd.isAgg3
 z3 := Tryd.sizeOf3
 v3 := Tryd.zeroValue3
 t4 := Tryd.underlying4
 a4 := Tryd.isAgg4
 z4 := Tryd.sizeOf4
 v4 := Tryd.zeroValue4
 t5 := Tryd.underlying5
 a5 := Tryd.isAgg5
 z5 := Tryd.sizeOf5
 v5 := Tryd.zeroValue5
 t9 := Tryd.underlying9
 a9 := Tryd.isAgg9
 z9 := Tryd.sizeOf9
 v9 := Tryd.zeroValue9
 t37 := Tryd.underlying66
 a37 := Tryd.isAgg66
 z37 := Tryd.sizeOf66
 v37 := Tryd.zeroValue66
 t51 := Tryd.underlying157
 a51 := Tryd.isAgg157
 z51 := Tryd.sizeOf157
 v51 := Tryd.zeroValue157
 t53 := Tryd.underlying76
 a53 := Tryd.isAgg76
 z53 := Tryd.sizeOf76
 v53 := Tryd.zeroValue76 }

open Go.RowKit Go.Sort Go.Lib in
/-- internal/strconv.formatBase10: "formatBase10 formats the decimal representation of u into a. The caller is responsible for ensuring that a is big enough to hold u. If a is too big, leading zeros will be filled in as needed.": THE ROW HOLDS u's DIGITS ('FmtInv .. 0 ..': every place t holds 'dg u (len - 1 - t)'); all else is as it was but for the count of draws. (LAID: no walk: one application.) -/
theorem Tryd.internal_strconv_formatBase10 (blk off cap : Nat) (u : Nat) (d : Array UInt8) (w : World) (hH : Holds (fun (b : UInt8) => Value.int .u8 (b.toNat : Int)) w blk off d) (hu : u < 10 ^ d.size) (hu64 : u < 18446744073709551616) (hsz : d.size < 4611686018427387904) :
  Calls Tryd.prog 126 #[.slice (some ⟨blk, off, none⟩) d.size cap, .int .u64 u] w fun e w' =>
   e = .returned (.tuple #[]) /\ ∃ (n v' : Nat) (dk : Array UInt8), w' = (putRow (fun (b : UInt8) => Value.int .u8 (b.toNat : Int)) w blk off dk).drewN n /\ FmtInv d.size u 0 v' dk := Any.internal_strconv_formatBase10 Tryd.lays285 blk off cap u d w hH hu hu64 hsz

def Tryd.laysM173_ren : Go.Shelf.Ren := ⟨fun | 173 => 90 | 246 => 117 | 283 => 124 | 284 => 125 | 285 => 126 | 286 => 127 | 129 => 131 | 317 => 130 | 318 => 132 | 319 => 133 | 320 => 134 | 337 => 136 | 338 => 137 | n => n, fun | 2 => 2 | 3 => 3 | 9 => 9 | 4 => 4 | 171 => 149 | 0 => 0 | 53 => 76 | 37 => 66 | 5 => 5 | 173 => 152 | 212 => 156 | 51 => 157 | 20 => 20 | 213 => 158 | 46 => 119 | 232 => 162 | 233 => 163 | n => n, fun | 17 => 1 | 18 => 2 | 19 => 3 | n => n⟩

theorem Tryd.laysM173 : Go.Proofs.LaysM.n173 Tryd.prog Tryd.laysM173_ren := {
 mixed := by kernel_rfl
 f129 := Tryd.func131.trans (congrArg some (by kernel_rfl))
 f173 := Tryd.func90.trans (congrArg some (by kernel_rfl))
 f246 := Tryd.func117.trans (congrArg some (by kernel_rfl))
 f283 := Tryd.func124.trans (congrArg some (by kernel_rfl))
 f284 := Tryd.func125.trans (congrArg some (by kernel_rfl))
 f285 := Tryd.func126.trans (congrArg some (by kernel_rfl))
 f286 := Tryd.func127.trans (congrArg some (by kernel_rfl))
 f317 := Tryd.func130.trans (congrArg some (by kernel_rfl))
 f318 := Tryd.func132.trans (congrArg some (by kernel_rfl))
 f319 := Tryd.func133.trans (congrArg some (by kernel_rfl))
 f320 := Tryd.func134.trans (congrArg some (by kernel_rfl))
 f337 := Tryd.func136.trans (congrArg some (by kernel_rfl))
 f338 := Tryd.func137.trans (congrArg some (by kernel_rfl))
 t0 := Tryd.underlying0
 a0 := Tryd.isAgg0
 z0 := Tryd.sizeOf0
 v0 := Tryd.zeroValue0
 t2 := Tryd.underlying2
 a2 := Tryd.isAgg2
 z2 := Tryd.sizeOf2
 v2 := Tryd.zeroValue2
 t3 := Tryd.underlying3
 a3 := Tryd.isAgg3
 z3 := Tryd.sizeOf3
 v3 := Tryd.zeroValue3
 t4 := Tryd.underlying4
 a4 := Tryd.isAgg4
 z4 := Tryd.sizeOf4
 v4 := Tryd.zeroValue4
 t5 := Tryd.underlying5
 a5 := Tryd.isAgg5
 z5 := Tryd.sizeOf5
 v5 := Tryd.zeroValue5
 t9 := Tryd.underlying9
 a9 := Tryd.isAgg9
 z9 := Tryd.sizeOf9
 v9 := Tryd.zeroValue9
 t20 := Tryd.underlying20
 a20 := Tryd.isAgg20
 z20 := Tryd.sizeOf20
 v20 := Tryd.zeroValue20
 t37 := Tryd.underlying66
 a37 := Tryd.isAgg66
 z37 := Tryd.sizeOf66
 v37 := Tryd.zeroValue66
 t46 := Tryd.underlying119
 a46 := Tryd.isAgg119
 z46 := Tryd.sizeOf119
 v46 := Tryd.zeroValue119
 t51 := Tryd.underlying157
 a51 := Tryd.isAgg157
 z51 := Tryd.sizeOf157
 v51 := Tryd.zeroValue157
 t53 := Tryd.underlying76
 a53 := Tryd.isAgg76
 z53 := Tryd.sizeOf76
 v53 := Tryd.zeroValue76
 t171 := Tryd.underlying149
 a171 := Tryd.isAgg149
 z171 := Tryd.sizeOf149
 v171 := Tryd.zeroValue149
 t173 := Tryd.underlying152
 a173 := Tryd.isAgg152
 z173 := Tryd.sizeOf152
 v173 := Tryd.zeroValue152
 t212 := Tryd.underlying156
 a212 := Tryd.isAgg156
 z212 := Tryd.sizeOf156
 v212 := Tryd.zeroValue156
 t213 := Tryd.underlying158
 a213 := Tryd.isAgg158
 z213 := Tryd.sizeOf158
 t232 := Tryd.underlying162
 a232 := Tryd.isAgg162
 z232 := Tryd.sizeOf162
 v232 := Tryd.zeroValue162
 t233 := Tryd.underlying163
 a233 := Tryd.isAgg163
 z233 := Tryd.sizeOf163
 v233 := Tryd.zeroValue163
 g17 := by kernel_rfl
 g18 := by kernel_rfl
 g19 := by kernel_rfl
 i0 := by kernel_rfl
 i2 := by kernel_rfl
 i3 := by kernel_rfl
 i4 := by kernel_rfl
 i5 := by kernel_rfl
 i9 := by kernel_rfl
 i20 := by kernel_rfl
 i37 := by kernel_rfl
 i46 := by kernel_rfl
 i51 := by kernel_rfl
 i53 := by kernel_rfl
 i171 := by kernel_rfl
 i173 := by kernel_rfl
 i212 := by kernel_rfl
 i232 := by kernel_rfl
 i233 := by kernel_rfl
 m17 := by kernel_rfl
 m18 := by kernel_rfl
 m19 := by kernel_rfl }

open Go.RowKit Go.Sort Go.Lib in
/-- strconv.FormatInt: "FormatInt returns the string representation of i in the given base": AT BASE 10: i's decimal numeral, for every int64. (LAID: no walk: one application.) -/
theorem Tryd.strconv_FormatInt_10 (n : Int) (h0 : -9223372036854775808 <= n) (h1 : n <= 9223372036854775807) (w : World) (htab : Lib.TabIs Tryd.prog w "internal/strconv.uint64pow10" .u64 Lib.pow10Tab) :
  Calls Tryd.prog 90 #[.int .i64 n, .int .i64 10] w fun e w' => e = .returned (.string ⟨(Lib.itoa n).toArray⟩) /\ ∃ k os, w' = grow (w.drewN k) os := Any.strconv_FormatInt_10 Tryd.laysM173 n h0 h1 w htab

def Tryd.lays264_ren : Go.Shelf.Ren := ⟨fun | 264 => 111 | n => n, fun | 53 => 76 | 46 => 119 | n => n, fun | n => n⟩

theorem Tryd.lays264 : Go.Proofs.Lays.n264 Tryd.prog Tryd.lays264_ren := {
 mixed := by kernel_rfl
 f264 := Tryd.func111.trans (congrArg some (by kernel_rfl))
 t46 := Tryd.underlying119
 a46 := Tryd.isAgg119
 z46 := Tryd.sizeOf119
 v46 := Tryd.zeroValue119
 t53 := Tryd.underlying76
 a53 := Tryd.isAgg76
 z53 := Tryd.sizeOf76
 v53 := Tryd.zeroValue76 }

open Go.RowKit Go.Lib in
theorem Tryd.bits_Mul64 (x y : Nat) (hx : x < 18446744073709551616) (hy : y < 18446744073709551616) (w : World) :
  Calls Tryd.prog 111 #[.int .u64 x, .int .u64 y] w fun e w' => e = .returned (.tuple #[.int .u64 ((x * y / 18446744073709551616 : Nat) : Int), .int .u64 ((x * y % 18446744073709551616 : Nat) : Int)]) /\ w' = w := Any.bits_Mul64 Tryd.lays264 x y hx hy w

end Go.Proofs


namespace Go.Proofs.YtbicmlkjonaccaaDoor.Ln
open Go.ChangeShapes Go.WideShapes Go.ChangeAt Go.RowKit
set_option linter.unusedVariables false
set_option linter.unusedSimpArgs false
theorem kp {y y' : World} {b o : Nat} {v : Value} (hy : Below y.heap.size y y') (hb : b < y.heap.size) (h : y.cell? ⟨b, o, none⟩ = some v) : y'.cell? ⟨b, o, none⟩ = some v := (hy.cell (p := ⟨b, o, none⟩) hb).trans h
def SlM (w : World) (p : Option Addr) (xs : List Mo) : Prop := ∀ i, i < xs.length -> ∃ b o, p = some ⟨b, o, none⟩ /\ w.cell? ⟨b, o + i * 2, none⟩ = some (.string (xs.getD i mo0).1) /\ w.cell? ⟨b, o + i * 2 + 1, none⟩ = some (.int .i64 (xs.getD i mo0).2)
theorem SlM.keep {w w' : World} {p : Option Addr} {xs : List Mo} (hB : Below w.heap.size w w') (h : SlM w p xs) : SlM w' p xs := fun i hi => by
 obtain ⟨b, o, rfl, c0, c1⟩ := h i hi
 have hb : b < w.heap.size := by have := World.block_lt_of_cell? w _ c0; simpa using this
 exact ⟨b, o, rfl, kp hB hb c0, kp hB hb c1⟩
theorem ret_int {a b : Int} (h : a = b) : Ending.returned (.int .i64 a) = .returned (.int .i64 b) := by rw [h]
theorem ret_bool {a b : Bool} (h : a = b) : Ending.returned (.bool a) = .returned (.bool b) := by rw [h]
def Lv (k : Int) (p : Option Addr) (n c : Nat) : Value := .agg #[.int .i64 k, .slice p n c]
theorem below_drewN {B : Nat} {a w : World} (h : Below B a w) (n : Nat) : Below B a (w.drewN n) := ⟨h.os, h.tape, h.output, h.size, h.block⟩
theorem two_below {w : World} (o o' : Obj) : Below w.heap.size w ((w.alloc o).alloc o') := ((Below.refl _ _).alloc (Nat.le_refl _) _).alloc (by simp) _
theorem two_size {w : World} (o o' : Obj) : w.heap.size < ((w.alloc o).alloc o').heap.size /\ w.heap.size + 1 < ((w.alloc o).alloc o').heap.size := by
 constructor <;> (simp <;> omega)
end Go.Proofs.YtbicmlkjonaccaaDoor.Ln


namespace Go.Proofs.YtbicmlkjonaccaaDoor.Ln
open Go.ChangeShapes Go.WideShapes Go.ChangeAt Go.RowKit
open Go.Proofs.YtbicmlkjonaccaaDoor.Nm
set_option linter.unusedVariables false
set_option linter.unusedSimpArgs false
set_option maxRecDepth 100000 in
set_option maxHeartbeats 8000000 in
theorem small (k : Int) (p : Option Addr) (xs : List Mo) (c : Nat) (w : World) (hn : xs.length <= maxLen) (RA : Hid (SlM w p xs)) :
  Calls Tryd.prog 14 #[Lv k p xs.length c] w fun e w' => (∃ v : Bool, e = .returned (.bool v)) /\ Below w.heap.size w w' := by
 have B0 : Below w.heap.size w (w.alloc (Obj.cells #[Value.int .i64 k, Value.slice p xs.length c] 24)) := (Below.refl _ _).alloc (Nat.le_refl _) _
 have f1 : (w.alloc (Obj.cells #[Value.int .i64 k, Value.slice p xs.length c] 24)).cell? ⟨w.heap.size, 1, none⟩ = some (.slice p xs.length c) := by go_cell
 unfold maxLen at hn
 unfold Lv
 by_cases h40 : 40 < xs.length
 ·have d1 : (40 : Int) < xs.length := by omega
  go_enter Tryd.func14, Tryd.ntmps14
  go_wp2
  go_ret
  exact ⟨⟨_, rfl⟩, B0⟩
 ·have d1 : ¬ (40 : Int) < xs.length := by omega
  go_enter Tryd.func14, Tryd.ntmps14
  go_wp2
  have RA1 := Lib.hid (SlM.keep B0 RA.out)
  generalize w.alloc (Obj.cells #[Value.int .i64 k, Value.slice p xs.length c] 24) = z at *
  go_loopw [3] (fun i wr => ∃ j : Nat, i = .int .i64 (j : Int) /\ j <= xs.length /\ wr = z) (fun i _ => xs.length - (intOf i).toNat)
  case atStart => exact ⟨0, rfl, by omega, rfl⟩
  case round =>
   obtain ⟨j, rfl, hk, rfl⟩ := hrel
   have k0 : (0 : Int) <= j := by omega
   by_cases hlt : j < xs.length
   ·obtain ⟨b, o, rfl, c0, c1⟩ := RA1.out j hlt
    obtain ⟨x, hx⟩ : ∃ x, xs.getD j mo0 = x := ⟨_, rfl⟩
    rw [hx] at c0 c1
    clear hx
    obtain ⟨s, a⟩ := x
    simp only at c0 c1
    have k1 : (j : Int) < xs.length := by omega
    by_cases hs : 40 < s.size
    ·have d2 : (40 : Int) < s.size := by omega
     go_wp2
     go_ret
     exact ⟨⟨_, rfl⟩, B0⟩
    ·have d2 : ¬ (40 : Int) < s.size := by omega
     go_wp2
     go_roundw
     case rel => exact ⟨j + 1, by go_num, by omega, by first | rfl | trivial⟩
     case measure => simp [intOf]; omega
   ·have k1 : ¬ (j : Int) < xs.length := by omega
    go_wp2
    go_ret
    exact ⟨by first | exact ⟨_, rfl⟩ | rfl | simp, B0⟩

end Go.Proofs.YtbicmlkjonaccaaDoor.Ln
