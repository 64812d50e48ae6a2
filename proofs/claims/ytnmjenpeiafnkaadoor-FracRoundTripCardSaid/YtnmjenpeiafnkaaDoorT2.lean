/- Package frac: numbers that fit, the two halves of a text. -/
import Derived.Test.YtnmjenpeiafnkaaDoorT1
import Derived.IntWalk
namespace Go.Proofs.YtnmjenpeiafnkaaDoor.Tx
open Go.ChangeShapes Go.WideShapes Go.ChangeAt Go.RowKit
open Fr
set_option maxRecDepth 8000
set_option linter.unusedVariables false
set_option linter.unusedSimpArgs false

theorem c_pi {s : ByteArray} {v : Int} (w : World) (hs : s.size ≤ 9223372036854775806) (h : Lib.parseIntB 64 s.data.toList = .ok v) :
    Calls Tryd.prog 75 #[.string s, .int .i64 10, .int .i64 64] w (Ret (.tuple #[.int .i64 v, .nilIface]) w) := by
  refine (Tryd.strconv_ParseInt_10_at64_ok s hs v h w).mono ?_
  rintro e w' ⟨rfl, hw⟩
  refine ⟨rfl, ?_⟩
  rcases hw with rfl | ⟨t, rfl⟩
  · exact Below.refl _ _
  · exact Lib.bytesWorld_below _ _ _
/-- A number that does not fit: whatever number, and false. -/
def NoFit (w : World) (e : Ending) (w' : World) : Prop := ∃ n : Int, e = .returned (.tuple #[.int .i64 n, .bool false]) ∧ Below w.heap.size w w'
theorem c_bo {s : ByteArray} (w : World) (hs : s.size ≤ 281474976710656) (h : whole s.data.toList = true) (hf : fit s.data.toList = true) :
    Calls Tryd.prog 56 #[.string s] w (Ret (.tuple #[.int .i64 (sv s.data.toList), .bool true]) w) := by
  obtain ⟨hp, h1, h2⟩ := pint h hf
  have P := Lib.hid (c_pi w (by omega) hp)
  clear hp h hf
  generalize sv s.data.toList = v at *
  go_enter Tryd.func56, Tryd.ntmps56
  go_wp2_with (go_at_call 75; refine P.out.mono ?_; rintro e w1 ⟨rfl, hb⟩)
  go_ret2
  exact ⟨rfl, hb⟩
theorem c_bon {s : ByteArray} (w : World) (hs : s.size ≤ 281474976710656) (hL : LA w) (h : whole s.data.toList = true) (hf : fit s.data.toList = false) :
    Calls Tryd.prog 56 #[.string s] w (NoFit w) := by
  rcases pint_no h hf with ⟨v, hp, hv, v0, v1⟩ | hp
  · have P := Lib.hid (c_pi w (by omega) hp)
    clear hp h hf hL
    rcases hv with hv | hv
    · go_enter Tryd.func56, Tryd.ntmps56
      go_wp2_with (go_at_call 75; refine P.out.mono ?_; rintro e w1 ⟨rfl, hb⟩)
      go_ret2
      exact ⟨_, rfl, hb⟩
    · have q0 : -2147483647 ≤ v := by omega
      have q1 : decide (v ≤ 2147483647) = false := by simp; omega
      clear hv
      go_enter Tryd.func56, Tryd.ntmps56
      go_wp2_with (go_at_call 75; refine P.out.mono ?_; rintro e w1 ⟨rfl, hb⟩)
      go_ret2
      exact ⟨_, rfl, hb⟩
  · obtain ⟨_, ev, hc, hev⟩ := hL
    have P := Lib.hid (Tryd.strconv_ParseInt_10_at64_range s hs hp ev w hc hev)
    clear hp h hf hc hev
    generalize Lib.intSat 64 s.data.toList = v at *
    go_enter Tryd.func56, Tryd.ntmps56
    go_wp2_with (go_at_call 75; refine P.out.mono ?_; rintro e w1 ⟨q, rfl, hq1, hq2, hb⟩; clear hq1 hq2)
    go_ret2
    exact ⟨_, rfl, hb⟩
theorem c_six (s : ByteArray) (w : World) : Calls Tryd.prog 78 #[.string s, .string ⟨#[47]⟩] w fun e w' => e = .returned (.int .i64 (ix s.data.toList)) ∧ w = w' :=
  (Tryd.stringslite_Index_one s 47 w).mono fun e w' ⟨he, hw⟩ => ⟨he, hw.symm⟩
theorem c_cut0 (s : ByteArray) (w : World) (h : ix s.data.toList = -1) : Calls Tryd.prog 54 #[.string s, .string ⟨#[47]⟩] w fun e w' => e = .returned (.tuple #[.string s, .string ⟨#[]⟩, .bool false]) ∧ ∃ n, w' = w.drewN n := by
  have I := Lib.hid fun w => c_six s w
  rw [h] at I
  clear h
  have C : Hid (∀ w, Calls Tryd.prog 73 #[.string s, .string ⟨#[47]⟩] w fun e w' => e = .returned (.tuple #[.string s, .string ⟨#[]⟩, .bool false]) ∧ ∃ n, w' = w.drewN n) := Lib.hid fun w => by
    go_enter Tryd.func73, Tryd.ntmps73
    go_wp2_with (go_at_call 78; refine (I.out _).mono ?_; rintro e w' ⟨rfl, rfl⟩)
    go_ret3
    exact ⟨rfl, 0, rfl⟩
  go_enter Tryd.func54, Tryd.ntmps54
  go_wp2_with (go_at_call 73; refine (C.out _).mono ?_; rintro e w' ⟨rfl, n, rfl⟩)
  go_ret3
  exact ⟨rfl, _, rfl⟩
theorem c_cut1 (s : ByteArray) (i : Nat) (w : World) (h : ix s.data.toList = i) (hi : i + 1 ≤ s.size) (hs : s.size ≤ maxLen) : Calls Tryd.prog 54 #[.string s, .string ⟨#[47]⟩] w fun e w' => e = .returned (.tuple #[.string (s.extract 0 i), .string (s.extract (i + 1) s.size), .bool true]) ∧ ∃ n, w' = w.drewN n := by
  have I := Lib.hid fun w => c_six s w
  rw [h] at I
  clear h
  unfold maxLen at hs
  have C : Hid (∀ w, Calls Tryd.prog 73 #[.string s, .string ⟨#[47]⟩] w fun e w' => e = .returned (.tuple #[.string (s.extract 0 i), .string (s.extract (i + 1) s.size), .bool true]) ∧ ∃ n, w' = w.drewN n) := Lib.hid fun w => by
    have c1 : (0 : Int) ≤ ↑i := by omega
    have c2 : (↑i : Int) ≤ ↑s.size := by omega
    have c3 : (0 : Int) ≤ ↑i + 1 := by omega
    have c4 : (↑i + 1 : Int) ≤ ↑s.size := by omega
    have c5 : (IntKind.i64.wrap ((i : Int) + 1)) = (i : Int) + 1 := IntWalk.i64_in _ (by omega)
    have c6 : ((i : Int) + 1).toNat = i + 1 := by omega
    go_enter Tryd.func73, Tryd.ntmps73
    go_wp2_with (go_at_call 78; refine (I.out _).mono ?_; rintro e w' ⟨rfl, rfl⟩)
    go_quiet (fail)
    go_wp2
    go_ret3
    exact ⟨rfl, _, rfl⟩
  go_enter Tryd.func54, Tryd.ntmps54
  go_wp2_with (go_at_call 73; refine (C.out _).mono ?_; rintro e w' ⟨rfl, n, rfl⟩)
  go_ret3
  exact ⟨rfl, _, rfl⟩

/-- Text of Go's halves. -/
theorem sl_take (s : ByteArray) (i : Nat) (h : i ≤ s.size) : (s.extract 0 i).data.toList = s.data.toList.take i := by
  simp [ByteArray.data_extract]
theorem sl_drop (s : ByteArray) (i : Nat) : (s.extract i s.size).data.toList = s.data.toList.drop i := by
  rw [ByteArray.data_extract, Array.toList_extract, List.extract_eq_take_drop, Lib.size_eq, List.take_of_length_le (by rw [List.length_drop]; omega)]
theorem size_take (s : ByteArray) (i : Nat) (h : i ≤ s.size) : (s.extract 0 i).size = i := by rw [Lib.size_eq, sl_take s i h, List.length_take, ← Lib.size_eq]; omega
theorem size_drop (s : ByteArray) (i : Nat) : (s.extract i s.size).size = s.size - i := by rw [Lib.size_eq, sl_drop s i, List.length_drop, ← Lib.size_eq]
end Go.Proofs.YtnmjenpeiafnkaaDoor.Tx
