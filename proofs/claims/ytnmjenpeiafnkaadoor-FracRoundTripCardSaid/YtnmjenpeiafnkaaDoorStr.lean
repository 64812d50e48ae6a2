/- What Parse of package frac calls, at the strings of the examples. -/
import Derived.Test.YtnmjenpeiafnkaaDoorNew
import Derived.Test.YtnmjenpeiafnkaaDoorValid
import Derived.Test.YtnmjenpeiafnkaaDoorShelf
namespace Go.Proofs.YtnmjenpeiafnkaaDoor.Fr
open Go.ChangeShapes Go.WideShapes Go.ChangeAt Go.RowKit
set_option linter.unusedVariables false
set_option maxHeartbeats 400000
def str24 : ByteArray := ⟨#[50, 47, 52]⟩
def str2 : ByteArray := ⟨#[50]⟩
def str4 : ByteArray := ⟨#[52]⟩
theorem trim (s : ByteArray) (w : World) (h : (Lib.trimPrefix s.data.toList [45]).toArray = s.data) : Calls Tryd.prog 74 #[.string s, .string ⟨#[45]⟩] w fun e w' => e = .returned (.string s) ∧ w = w' :=
  (Tryd.strings_TrimPrefix s ⟨#[45]⟩ w).mono fun e w' ⟨he, hw⟩ => ⟨by rw [he, h], hw.symm⟩
theorem idx (w : World) : Calls Tryd.prog 78 #[.string str24, .string ⟨#[47]⟩] w fun e w' => e = .returned (.int .i64 1) ∧ w = w' :=
  (Tryd.stringslite_Index_one str24 47 w).mono fun e w' ⟨he, hw⟩ => ⟨by rw [he]; rfl, hw.symm⟩
theorem cut73 (w : World) : Calls Tryd.prog 73 #[.string str24, .string ⟨#[47]⟩] w fun e w' => e = .returned (.tuple #[.string str2, .string str4, .bool true]) ∧ ∃ n, w' = w.drewN n := by
  have hs : str24.size = 3 := rfl
  have e1 : str24.extract 0 1 = str2 := rfl
  have e2 : str24.extract 2 3 = str4 := rfl
  have h1 : 1 ≤ str24.size := by decide
  have h2 : 2 ≤ str24.size := by decide
  go_enter Tryd.func73, Tryd.ntmps73
  go_wp2_with (go_at_call 78; refine (idx _).mono ?_; rintro e w' ⟨rfl, rfl⟩)
  go_quiet (fail)
  go_wp2
  go_ret3
  exact ⟨rfl, _, rfl⟩
theorem cut (w : World) : Calls Tryd.prog 54 #[.string str24, .string ⟨#[47]⟩] w fun e w' => e = .returned (.tuple #[.string str2, .string str4, .bool true]) ∧ ∃ n, w' = w.drewN n := by
  go_enter Tryd.func54, Tryd.ntmps54
  go_wp2_with (go_at_call 73; refine (cut73 _).mono ?_; rintro e w' ⟨rfl, n, rfl⟩)
  go_ret3
  exact ⟨rfl, _, rfl⟩
theorem isint (s : ByteArray) (w : World) (h1 : s.size = 1) (h2 : 48 < (s[0].toNat : Int)) (h3 : (s[0].toNat : Int) ≤ 57) (ht : (Lib.trimPrefix s.data.toList [45]).toArray = s.data) (h7 : s.toList.isEmpty = false) :
    Calls Tryd.prog 55 #[.string s] w fun e w' => e = .returned (.bool true) ∧ w = w' := by
  have T := Lib.hid (trim s w ht)
  clear ht
  have h4 : 0 < s.size := by omega
  have h5 : ((s[0].toNat : Int) == 48) = false := by simp; omega
  go_enter Tryd.func55, Tryd.ntmps55
  go_wp2_with (go_at_call 74; refine T.out.mono ?_; rintro e w' ⟨rfl, rfl⟩)
  refine wp_loop_rounds 2 ?_
  repeat any_goals (rw [rounds_succ]; go_wp2)
  go_ret
  exact ⟨rfl, rfl⟩
theorem parseint (s : ByteArray) (v : Int) (w : World) (hs : s.size ≤ 9223372036854775806) (h : Lib.parseIntB 64 s.data.toList = .ok v) :
    Calls Tryd.prog 75 #[.string s, .int .i64 10, .int .i64 64] w (Ret (.tuple #[.int .i64 v, .nilIface]) w) := by
  refine (Tryd.strconv_ParseInt_10_at64_ok s hs v h w).mono ?_
  rintro e w' ⟨rfl, hw⟩
  refine ⟨rfl, ?_⟩
  rcases hw with rfl | ⟨t, rfl⟩
  · exact Below.refl _ _
  · exact Lib.bytesWorld_below _ _ _
theorem bounded (s : ByteArray) (v : Int) (w : World) (hs : s.size ≤ 9223372036854775806) (h : Lib.parseIntB 64 s.data.toList = .ok v) (h1 : -2147483647 ≤ v) (h2 : v ≤ 2147483647) :
    Calls Tryd.prog 56 #[.string s] w (Ret (.tuple #[.int .i64 v, .bool true]) w) := by
  have P := Lib.hid (parseint s v w hs h)
  clear h
  go_enter Tryd.func56, Tryd.ntmps56
  go_wp2_with (go_at_call 75; refine P.out.mono ?_; rintro e w1 ⟨rfl, hb⟩)
  go_ret2
  exact ⟨rfl, hb⟩
set_option maxHeartbeats 2000000 in
theorem parse24 (w : World) : Calls Tryd.prog 35 #[.string str24] w (Ret (Frac3 0 0 5) w) := by
  have i2 := Lib.hid (fun w => isint str2 w rfl (by decide) (by decide) rfl (by kernel_rfl))
  have i4 := Lib.hid (fun w => isint str4 w rfl (by decide) (by decide) rfl (by kernel_rfl))
  have b2 := Lib.hid (fun w => bounded str2 2 w (by decide) rfl (by decide) (by decide))
  have b4 := Lib.hid (fun w => bounded str4 4 w (by decide) rfl (by decide) (by decide))
  have VV := Lib.hid (fun w => show Calls Tryd.prog 14 #[.agg #[.int .i64 2, .int .i64 4]] w (Ret (.bool false) w) from valid_any 2 4 w)
  have h4 : 0 < str4.size := by decide
  have h5 : ((str4[0].toNat : Int) == 45) = false := rfl
  have h6 : (str4.toList == [48]) = false := by kernel_rfl
  have h7 : (str4.toList == [49]) = false := by kernel_rfl
  go_enter Tryd.func35, Tryd.ntmps35
  go_wp2_with fail
  refine (cut _).mono ?_
  rintro e w1 ⟨rfl, n, rfl⟩
  go_wp2_with (first | (go_at_call 55; ((with_reducible refine (i2.out _).mono ?_); rintro e w' ⟨rfl, rfl⟩)) | (go_at_call 55; ((with_reducible refine (i4.out _).mono ?_); rintro e w' ⟨rfl, rfl⟩)) | fail)
  refine (b2.out _).mono ?_
  rintro e w2 ⟨rfl, hb2⟩
  have z2 : w.heap.size < w2.heap.size := by
    have := hb2.size
    simp at this
    omega
  go_wp2_with fail
  refine (b4.out _).mono ?_
  rintro e w3 ⟨rfl, hb3⟩
  have z3 := hb3.size
  go_wp2_with fail
  refine (VV.out _).mono ?_
  rintro e w4 ⟨rfl, hb4⟩
  have z4 := hb4.size
  have Bt : Below (w.heap.size + 1) ((w.alloc (.cells #[.int .i64 0, .int .i64 0] 23)).drewN n) w4 :=
    (hb2.mono (by simp)).trans ((hb3.mono (by omega)).trans (((Below.refl _ _).alloc (by omega) _).trans (hb4.mono (by simp; omega))))
  have c0 := Bt.cell (p := ⟨w.heap.size, 0, none⟩) (by simp)
  have c1 := Bt.cell (p := ⟨w.heap.size, 1, none⟩) (by simp)
  have f0 := Bt.frozen (p := ⟨w.heap.size, 0, none⟩) (by simp)
  have f1 := Bt.frozen (p := ⟨w.heap.size, 1, none⟩) (by simp)
  simp at c0 c1 f0 f1
  go_wp2
  refine bodyPost_ret (v := Frac3 0 0 5) (by simp [results, Tryd.results35, go_sem, c0, c1]) rfl ⟨rfl, ?_⟩
  refine Below.setCell (Below.setCell ?_ (by simp) _) (by simp) _
  exact (below_drewN ((Below.refl _ _).alloc (Nat.le_refl _) _) n).trans (Bt.mono (by simp))
end Go.Proofs.YtnmjenpeiafnkaaDoor.Fr
