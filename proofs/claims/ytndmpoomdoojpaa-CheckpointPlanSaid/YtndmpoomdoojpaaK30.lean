/- The planner: Plan. -/
import Derived.Test.YtndmpoomdoojpaaRows
import Derived.WalkKit
import Derived.ProofKit
import Derived.OpenShut
import Derived.WalkLawsBesides
import Derived.WalkSpells
import Derived.Outline
import Derived.Handy
import Derived.IntWalk
import Derived.Deep.QuietTactic
import Derived.BigQuiet
import Derived.Lib.Hide
import Derived.Test.YtndmpoomdoojpaaK29
import Derived.Test.YtndmpoomdoojpaaK6
namespace Go.Proofs.Ytndmpoomdoojpaa.Ck
open Go.ChangeShapes Go.WideShapes Go.ChangeAt Go.RowKit
set_option linter.unusedVariables false

def PLW (xs : List Act3) (er : Int) (w : World) (e : Ending) (w' : World) : Prop := ∃ v, e = .returned (.tuple #[v, .int .i64 er]) ∧ Below w.heap.size w w' ∧ w'.ownsRow w.heap.size 66 3 v xs.length (acs xs)
theorem plan_no (n s : Int) (w : World) (h : inr n s = false) : Calls Try.prog 26 #[.int .i64 n, .int .i64 s] w (PLW [] 1 w) := by
  have C := Lib.hid (inRange n s w)
  rw [h] at C
  go_enter Try.func26, Try.ntmps26
  go_wp2_with fail
  refine C.out.mono ?_
  rintro e w' ⟨rfl, rfl⟩
  go_wp2
  exact bodyPost_ret (v := .tuple #[.slice none 0 0, .int .i64 1]) (by simp [results, Try.results26, go_sem]) rfl ⟨_, rfl, Below.refl _ _, World.ownsRow_nil _ _ _ _⟩
set_option maxRecDepth 100000 in
set_option maxHeartbeats 8000000 in
theorem plan_ok (n s : Nat) (w : World) (hn : n ≤ 64) (hs : s ≤ 64) : Calls Try.prog 26 #[.int .i64 (n : Int), .int .i64 (s : Int)] w (PLW (pl n 0 n s (-1) 0) 0 w) := by
  have C := Lib.hid (inRange n s w)
  rw [inr_ok (by omega)] at C
  have CO := Lib.hid fun (i j : Nat) (hi : i ≤ 64) (hj : j ≤ 64) (u : World) => cost_ok (n := (j : Int)) (s := (i : Int)) (by omega) u
  have hlen := (pl_len n n s 0 (-1) 0 (Nat.le_refl _) (by omega) (by omega)).1
  have hbd := co_bd (n := (n : Int)) (s := (s : Int)) (by omega) (by omega) (by omega) (by omega)
  have RV := Lib.hid fun (u : World) (b : Nat) (hu : Hid (PS w b n s [] u)) => rev1 w b n s hn hs n n s n s 0 (-1) 0 [] u (Nat.le_refl _) rfl rfl (Nat.le_refl _) (Nat.le_refl _) (Int.le_refl _) (by omega) (Int.le_refl _) (by omega) (by omega) (by omega) (by simp only [List.length_nil]; omega) hu
  generalize pl n 0 n s (-1) 0 = L at hlen RV ⊢
  rw [List.nil_append] at RV
  clear hlen hbd
  go_enter Try.func26, Try.ntmps26
  go_wp2_with fail
  refine C.out.mono ?_
  rintro e w' ⟨rfl, rfl⟩
  go_wp2_with (refine wpList_alloc84 rfl rfl ?_)
  have H0 := Lib.hid (PT.start w n)
  generalize w.alloc (Obj.cells Z84 84) = w1 at *
  have n64 : (n : Int) ≤ 64 := by omega
  have s64 : (s : Int) ≤ 64 := by omega
  have a1 : Program.arrayLen Try.prog 82 = 65 := by kernel_rfl
  have a2 : Program.arrayLen Try.prog 81 = 65 := by kernel_rfl
  clear C
  go_loopw [15] (fun iv wr => ∃ i : Nat, iv = .int .i64 (i : Int) ∧ i ≤ s + 1 ∧ Hid (PT w w.heap.size n i 0 wr)) (fun iv _ => s + 1 - (intOf iv).toNat)
  case atStart => exact ⟨0, rfl, by omega, H0⟩
  case round =>
    obtain ⟨i, rfl, hi, HP⟩ := hrel
    have i0 : (0 : Int) ≤ i := by omega
    by_cases hlt : i < s + 1
    · have k1 : (i : Int) < (s : Int) + 1 := by omega
      have i64 : (i : Int) < 65 := by omega
      go_wp2
      go_loopw [20] (fun jv w2 => ∃ j : Nat, jv = .int .i64 (j : Int) ∧ j ≤ n + 1 ∧ Hid (PT w w.heap.size n i j w2)) (fun jv _ => n + 1 - (intOf jv).toNat)
      case atStart => exact ⟨0, rfl, by omega, HP⟩
      case round =>
        obtain ⟨j, rfl, hj, HQ⟩ := hrel
        have j0 : (0 : Int) ≤ j := by omega
        by_cases hlt2 : j < n + 1
        · have k2 : (j : Int) < (n : Int) + 1 := by omega
          have j65 : (j : Int) < 65 := by omega
          obtain ⟨_, arr, hPL, hsz, _⟩ := HQ.out
          obtain ⟨y, hy⟩ : ∃ y, arr[i * 65 + j]? = some y := ⟨_, Array.getElem?_eq_getElem (by omega)⟩
          have c0 := (hPL.cell (i * 65 + j)).trans hy
          have f0 := hPL.fz (i * 65 + j)
          have CC := Lib.hid fun u => CO.out i j (by omega) (by omega) u
          have HQ2 := Lib.hid (HQ.out.put (Nat.le_refl _) hn (by omega) (by omega))
          clear hPL hsz hy HQ
          go_wp2_with fail
          go_region_with (go_at_call 20; refine (CC.out _).mono ?_; rintro e u ⟨rfl, rfl⟩)
          all_goals
            go_wp2
            go_roundw
            case rel => exact ⟨j + 1, by go_num, by omega, Lib.hid (HQ2.out.drewN 1)⟩
            case measure => simp [intOf]; omega
        · have k2 : ¬ (j : Int) < (n : Int) + 1 := by omega
          obtain rfl : j = n + 1 := by omega
          have HN := Lib.hid HQ.out.next
          go_wp2
          go_roundw
          case rel => exact ⟨i + 1, by go_num, by omega, HN⟩
          case measure => simp [intOf]; omega
    · have k1 : ¬ (i : Int) < (s : Int) + 1 := by omega
      obtain rfl : i = s + 1 := by omega
      have HD := Lib.hid (HP.out.done (Nat.le_refl _))
      have R9 := Lib.hid (RV.out wr w.heap.size HD)
      go_wp2_with fail
      refine R9.out.mono ?_
      rintro e w9 ⟨⟨v9, rfl⟩, hB9, _, arr, v, hPL, _, _, hv, hO⟩
      have c9 := (hPL.cell 4225).trans hv
      have HO := Lib.hid hO
      have HB := Lib.hid hB9
      clear hO hB9 hPL hv
      go_wp2
      exact bodyPost_ret (v := .tuple #[v, .int .i64 0]) (by simp [results, Try.results26, go_sem]) rfl ⟨_, rfl, HB.out, HO.out⟩
end Go.Proofs.Ytndmpoomdoojpaa.Ck
