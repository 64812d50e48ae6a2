/- Lifetimes: the laws as their frames call them. -/
import Derived.Test.YtipeapjbodnagaaL10
namespace Go.Proofs.Ytipeapjbodnagaa.Lv
open Go.ChangeShapes Go.WideShapes Go.ChangeAt Go.RowKit
set_option linter.unusedVariables false

theorem law_count' (p : Option Addr) (xs : List Lf) (c : Nat) (w : World) (hl : xs.length ≤ c) (hm : c ≤ maxLen) (RA : Hid (SlL w p xs)) (RB : ∀ z ∈ xs, z.1.size ≤ maxLen ∧ (-9223372036854775808 ≤ z.2.1 ∧ z.2.1 ≤ 9223372036854775807) ∧ (-9223372036854775808 ≤ z.2.2.1 ∧ z.2.2.1 ≤ 9223372036854775807) ∧ (-9223372036854775808 ≤ z.2.2.2 ∧ z.2.2.2 ≤ 9223372036854775807)) :
    Calls Try.prog 12 #[.slice p xs.length c] w fun e w' => e = .returned (.bool true) ∧ Below w.heap.size w w' :=
  law_count p xs c w (Nat.le_trans hl hm) RA (Lib.hid fun i hi => by rw [getD_lf hi]; exact (RB _ (List.getElem_mem hi)).1)
theorem law_valid' (p : Option Addr) (xs : List Lf) (c : Nat) (w : World) (hl : xs.length ≤ c) (hm : c ≤ maxLen) (RA : Hid (SlL w p xs)) (RB : ∀ z ∈ xs, z.1.size ≤ maxLen ∧ (-9223372036854775808 ≤ z.2.1 ∧ z.2.1 ≤ 9223372036854775807) ∧ (-9223372036854775808 ≤ z.2.2.1 ∧ z.2.2.1 ≤ 9223372036854775807) ∧ (-9223372036854775808 ≤ z.2.2.2 ∧ z.2.2.2 ≤ 9223372036854775807)) :
    Calls Try.prog 13 #[.slice p xs.length c] w fun e w' => e = .returned (.bool true) ∧ Below w.heap.size w w' :=
  law_valid p xs c w (Nat.le_trans hl hm) RA (Lib.hid fun i hi => by rw [getD_lf hi]; exact (RB _ (List.getElem_mem hi)).1)
theorem law_ext' (p : Option Addr) (xs : List Lf) (c : Nat) (w : World) (hl : xs.length ≤ c) (hm : c ≤ maxLen) (RA : Hid (SlL w p xs)) (RB : ∀ z ∈ xs, z.1.size ≤ maxLen ∧ (-9223372036854775808 ≤ z.2.1 ∧ z.2.1 ≤ 9223372036854775807) ∧ (-9223372036854775808 ≤ z.2.2.1 ∧ z.2.2.1 ≤ 9223372036854775807) ∧ (-9223372036854775808 ≤ z.2.2.2 ∧ z.2.2.2 ≤ 9223372036854775807)) :
    Calls Try.prog 14 #[.slice p xs.length c] w fun e w' => e = .returned (.bool true) ∧ Below w.heap.size w w' :=
  law_ext p xs c w (Nat.le_trans hl hm) RA (Lib.hid fun i hi => by rw [getD_lf hi]; exact (RB _ (List.getElem_mem hi)).1)
theorem law_over' (s : ByteArray) (f t z : Int) (s' : ByteArray) (f' t' z' : Int) (w : World) {A B C D A' B' C' D' : Prop} (_ : A) (_ : B) (_ : C) (_ : D) (_ : A') (_ : B') (_ : C') (_ : D') :
    Calls Try.prog 11 #[.agg #[.string s, .int .i64 f, .int .i64 t, .int .i64 z], .agg #[.string s', .int .i64 f', .int .i64 t', .int .i64 z']] w fun e w' => e = .returned (.bool true) ∧ Below w.heap.size w w' :=
  law_over s f t z s' f' t' z' w
end Go.Proofs.Ytipeapjbodnagaa.Lv
