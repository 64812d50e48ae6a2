/- The cache: a nil one and a zero one. -/
import Derived.Test.YtlmbjipcdhenlaaC5i
import Derived.Test.YtlmbjipcdhenlaaC6s
namespace Go.Proofs.Ytlmbjipcdhenlaa.Ci
open Go.ChangeShapes Go.WideShapes Go.ChangeAt Go.RowKit
open Go.Proofs.Ytlmbjipcdhenlaa.Ca
set_option linter.unusedVariables false
set_option linter.unusedSimpArgs false
def U0 (P : Option Addr) (w : World) : Prop := Calls Try.prog 49 #[.pointer P] w fun e w' => e = .returned (.bool false) ∧ w = w'
theorem put0 (P : Option Addr) (s : ByteArray) (v : Int) (w : World) (C : Hid (U0 P w)) : Calls Try.prog 18 #[.pointer P, .string s, .int .i64 v] w fun e w' => e = .returned (.bool false) ∧ w = w' := by
  go_enter Try.func18, Try.ntmps18
  go_wp2_with fail
  refine Calls.mono C.out ?_
  rintro e w1 ⟨rfl, rfl⟩
  go_wp2
  go_ret
  exact ⟨rfl, rfl⟩
theorem get0 (P : Option Addr) (s : ByteArray) (w : World) (C : Hid (U0 P w)) : Calls Try.prog 16 #[.pointer P, .string s] w fun e w' => e = .returned (.tuple #[.int .i64 0, .bool false]) ∧ w = w' := by
  go_enter Try.func16, Try.ntmps16
  go_wp2_with fail
  refine Calls.mono C.out ?_
  rintro e w1 ⟨rfl, rfl⟩
  go_wp2
  go_ret2
  exact ⟨rfl, rfl⟩
theorem remove0 (P : Option Addr) (s : ByteArray) (w : World) (C : Hid (U0 P w)) : Calls Try.prog 20 #[.pointer P, .string s] w fun e w' => e = .returned (.bool false) ∧ w = w' := by
  go_enter Try.func20, Try.ntmps20
  go_wp2_with fail
  refine Calls.mono C.out ?_
  rintro e w1 ⟨rfl, rfl⟩
  go_wp2
  go_ret
  exact ⟨rfl, rfl⟩
theorem len0 (P : Option Addr) (w : World) (C : Hid (U0 P w)) : Calls Try.prog 34 #[.pointer P] w fun e w' => e = .returned (.int .i64 0) ∧ w = w' := by
  go_enter Try.func34, Try.ntmps34
  go_wp2_with fail
  refine Calls.mono C.out ?_
  rintro e w1 ⟨rfl, rfl⟩
  go_wp2
  go_ret
  exact ⟨rfl, rfl⟩
theorem keys0 (P : Option Addr) (w : World) (C : Hid (U0 P w)) : Calls Try.prog 33 #[.pointer P] w fun e w' => e = .returned (.slice none 0 0) ∧ w = w' := by
  go_enter Try.func33, Try.ntmps33
  go_wp2_with fail
  refine Calls.mono C.out ?_
  rintro e w1 ⟨rfl, rfl⟩
  go_wp2
  go_ret
  exact ⟨rfl, rfl⟩
theorem stats0 (P : Option Addr) (w : World) (C : Hid (U0 P w)) : Calls Try.prog 54 #[.pointer P] w fun e w' => e = .returned (.tuple #[.int .i64 0, .int .i64 0]) ∧ w = w' := by
  go_enter Try.func54, Try.ntmps54
  go_wp2_with fail
  refine Calls.mono C.out ?_
  rintro e w1 ⟨rfl, rfl⟩
  go_wp2
  go_ret2
  exact ⟨rfl, rfl⟩
theorem empty1 (P : Option Addr) (s : ByteArray) (v : Int) (w : World) (C : Hid (U0 P w)) : Calls Try.prog 36 #[.pointer P, .string s, .int .i64 v] w fun e w' => e = .returned (.bool true) ∧ w = w' := by
  have C1 := Lib.hid (put0 P s v w C)
  have C2 := Lib.hid (get0 P s w C)
  have C3 := Lib.hid (stats0 P w C)
  have C4 := Lib.hid (len0 P w C)
  have C5 := Lib.hid (keys0 P w C)
  have C6 := Lib.hid (remove0 P s w C)
  go_enter Try.func36, Try.ntmps36
  go_wp2_with fail
  refine C1.out.mono ?_
  rintro e w1 ⟨rfl, rfl⟩
  go_wp2_with fail
  refine C2.out.mono ?_
  rintro e w1 ⟨rfl, rfl⟩
  go_wp2_with fail
  refine C3.out.mono ?_
  rintro e w1 ⟨rfl, rfl⟩
  go_wp2_with fail
  refine C4.out.mono ?_
  rintro e w1 ⟨rfl, rfl⟩
  go_wp2_with fail
  refine C5.out.mono ?_
  rintro e w1 ⟨rfl, rfl⟩
  go_wp2_with fail
  refine C6.out.mono ?_
  rintro e w1 ⟨rfl, rfl⟩
  go_wp2
  go_ret
  exact ⟨rfl, rfl⟩
theorem law_nil (s : ByteArray) (v : Int) (w : World) (hs : s.size ≤ maxLen) (hv : -9223372036854775808 ≤ v ∧ v ≤ 9223372036854775807) :
    Calls Try.prog 7 #[.string s, .int .i64 v] w fun e w' => e = .returned (.bool true) ∧ Below w.heap.size w w' := by
  have EX := Lib.hid Cs.alive
  have BA := (Below.refl w.heap.size w).alloc (Nat.le_refl _) (Obj.cells #[Value.int .i64 0, Value.map none, Value.pointer none, Value.pointer none, Value.int .i64 0, Value.int .i64 0] 67)
  have hc : (w.alloc (Obj.cells #[Value.int .i64 0, Value.map none, Value.pointer none, Value.pointer none, Value.int .i64 0, Value.int .i64 0] 67)).cell? ⟨w.heap.size, 0, none⟩ = some (.int .i64 0) := by go_cell
  have E1 := Lib.hid fun w => empty1 none s v w (Lib.hid (usable_nil w))
  have E2 := Lib.hid (empty1 (some ⟨w.heap.size, 0, none⟩) s v _ (Lib.hid (usable_zero w.heap.size _ hc)))
  clear hc
  go_enter Try.func7, Try.ntmps7
  go_wp2_with fail
  refine (E1.out _).mono ?_
  rintro e w1 ⟨rfl, rfl⟩
  go_wp2_with fail
  refine E2.out.mono ?_
  rintro e w1 ⟨rfl, rfl⟩
  go_wp2_with fail
  refine (EX.out _).mono ?_
  rintro e w1 ⟨rfl, hb⟩
  go_wp2
  go_ret
  exact ⟨rfl, BA.trans (hb.mono BA.size)⟩
end Go.Proofs.Ytlmbjipcdhenlaa.Ci
