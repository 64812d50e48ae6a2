/- Names of the base. -/
import Derived.Test.YtghnigmmkenddaaN2
import Derived.OwnWalk
import Derived.WalkSmall
import Derived.Deep.RegionHeld
namespace Go.Proofs.Ytghnigmmkenddaa.Nm
open Go.ChangeShapes Go.WideShapes Go.ChangeAt Go.RowKit
set_option linter.unusedVariables false
set_option linter.unusedSimpArgs false
def kwb : List ByteArray := [⟨#[115, 105, 122, 101]⟩, ⟨#[119, 104, 101, 114, 101]⟩, ⟨#[105, 110]⟩, ⟨#[100, 101, 102]⟩, ⟨#[111, 117, 116]⟩, ⟨#[115, 117, 109]⟩, ⟨#[112, 114, 111, 100]⟩, ⟨#[109, 105, 110]⟩, ⟨#[109, 97, 120]⟩, ⟨#[115, 99, 97, 110]⟩, ⟨#[111, 118, 101, 114]⟩, ⟨#[105, 102]⟩, ⟨#[99, 97, 115, 116]⟩, ⟨#[102, 114, 97, 99]⟩, ⟨#[105, 110, 116]⟩, ⟨#[102, 105, 120]⟩, ⟨#[99, 101, 105, 108]⟩, ⟨#[102, 108, 111, 111, 114]⟩, ⟨#[122, 101, 114, 111]⟩, ⟨#[101, 118, 101, 110]⟩, ⟨#[115, 97, 116]⟩, ⟨#[119, 114, 97, 112]⟩]
theorem kwb_any (l : List UInt8) : (kwb.any fun k => k.toList == l) = kwB l := by
  have e : kwL = kwb.map ByteArray.toList := by simp [kwL, kwb, ByteArray.toList_eq]
  unfold kwB
  rw [e, List.contains_eq_any_beq, List.any_map]
  congr 1
  funext k
  exact Bool.eq_iff_iff.2 (by simp only [beq_iff_eq, Function.comp]; exact eq_comm)
theorem words_cells (w : World) : SlT (w.alloc (Obj.cells #[Value.string ⟨#[115, 105, 122, 101]⟩, Value.string ⟨#[119, 104, 101, 114, 101]⟩, Value.string ⟨#[105, 110]⟩, Value.string ⟨#[100, 101, 102]⟩, Value.string ⟨#[111, 117, 116]⟩, Value.string ⟨#[115, 117, 109]⟩, Value.string ⟨#[112, 114, 111, 100]⟩, Value.string ⟨#[109, 105, 110]⟩, Value.string ⟨#[109, 97, 120]⟩, Value.string ⟨#[115, 99, 97, 110]⟩, Value.string ⟨#[111, 118, 101, 114]⟩, Value.string ⟨#[105, 102]⟩, Value.string ⟨#[99, 97, 115, 116]⟩, Value.string ⟨#[102, 114, 97, 99]⟩, Value.string ⟨#[105, 110, 116]⟩, Value.string ⟨#[102, 105, 120]⟩, Value.string ⟨#[99, 101, 105, 108]⟩, Value.string ⟨#[102, 108, 111, 111, 114]⟩, Value.string ⟨#[122, 101, 114, 111]⟩, Value.string ⟨#[101, 118, 101, 110]⟩, Value.string ⟨#[115, 97, 116]⟩, Value.string ⟨#[119, 114, 97, 112]⟩] 9)) (some ⟨w.heap.size, 0, none⟩) kwb := fun i hi => by
  refine ⟨w.heap.size, 0, rfl, ?_⟩
  have : i = 0 ∨ i = 1 ∨ i = 2 ∨ i = 3 ∨ i = 4 ∨ i = 5 ∨ i = 6 ∨ i = 7 ∨ i = 8 ∨ i = 9 ∨ i = 10 ∨ i = 11 ∨ i = 12 ∨ i = 13 ∨ i = 14 ∨ i = 15 ∨ i = 16 ∨ i = 17 ∨ i = 18 ∨ i = 19 ∨ i = 20 ∨ i = 21 := by simp [kwb] at hi; omega
  rcases this with rfl | rfl | rfl | rfl | rfl | rfl | rfl | rfl | rfl | rfl | rfl | rfl | rfl | rfl | rfl | rfl | rfl | rfl | rfl | rfl | rfl | rfl
  · show World.cell? _ _ = some (.string ⟨#[115, 105, 122, 101]⟩); go_cell
  · show World.cell? _ _ = some (.string ⟨#[119, 104, 101, 114, 101]⟩); go_cell
  · show World.cell? _ _ = some (.string ⟨#[105, 110]⟩); go_cell
  · show World.cell? _ _ = some (.string ⟨#[100, 101, 102]⟩); go_cell
  · show World.cell? _ _ = some (.string ⟨#[111, 117, 116]⟩); go_cell
  · show World.cell? _ _ = some (.string ⟨#[115, 117, 109]⟩); go_cell
  · show World.cell? _ _ = some (.string ⟨#[112, 114, 111, 100]⟩); go_cell
  · show World.cell? _ _ = some (.string ⟨#[109, 105, 110]⟩); go_cell
  · show World.cell? _ _ = some (.string ⟨#[109, 97, 120]⟩); go_cell
  · show World.cell? _ _ = some (.string ⟨#[115, 99, 97, 110]⟩); go_cell
  · show World.cell? _ _ = some (.string ⟨#[111, 118, 101, 114]⟩); go_cell
  · show World.cell? _ _ = some (.string ⟨#[105, 102]⟩); go_cell
  · show World.cell? _ _ = some (.string ⟨#[99, 97, 115, 116]⟩); go_cell
  · show World.cell? _ _ = some (.string ⟨#[102, 114, 97, 99]⟩); go_cell
  · show World.cell? _ _ = some (.string ⟨#[105, 110, 116]⟩); go_cell
  · show World.cell? _ _ = some (.string ⟨#[102, 105, 120]⟩); go_cell
  · show World.cell? _ _ = some (.string ⟨#[99, 101, 105, 108]⟩); go_cell
  · show World.cell? _ _ = some (.string ⟨#[102, 108, 111, 111, 114]⟩); go_cell
  · show World.cell? _ _ = some (.string ⟨#[122, 101, 114, 111]⟩); go_cell
  · show World.cell? _ _ = some (.string ⟨#[101, 118, 101, 110]⟩); go_cell
  · show World.cell? _ _ = some (.string ⟨#[115, 97, 116]⟩); go_cell
  · show World.cell? _ _ = some (.string ⟨#[119, 114, 97, 112]⟩); go_cell
theorem words (w : World) : Calls Try.prog 46 #[] w fun e w' => e = .returned (.slice (some ⟨w.heap.size, 0, none⟩) 22 22) ∧ w' = w.alloc (Obj.cells #[Value.string ⟨#[115, 105, 122, 101]⟩, Value.string ⟨#[119, 104, 101, 114, 101]⟩, Value.string ⟨#[105, 110]⟩, Value.string ⟨#[100, 101, 102]⟩, Value.string ⟨#[111, 117, 116]⟩, Value.string ⟨#[115, 117, 109]⟩, Value.string ⟨#[112, 114, 111, 100]⟩, Value.string ⟨#[109, 105, 110]⟩, Value.string ⟨#[109, 97, 120]⟩, Value.string ⟨#[115, 99, 97, 110]⟩, Value.string ⟨#[111, 118, 101, 114]⟩, Value.string ⟨#[105, 102]⟩, Value.string ⟨#[99, 97, 115, 116]⟩, Value.string ⟨#[102, 114, 97, 99]⟩, Value.string ⟨#[105, 110, 116]⟩, Value.string ⟨#[102, 105, 120]⟩, Value.string ⟨#[99, 101, 105, 108]⟩, Value.string ⟨#[102, 108, 111, 111, 114]⟩, Value.string ⟨#[122, 101, 114, 111]⟩, Value.string ⟨#[101, 118, 101, 110]⟩, Value.string ⟨#[115, 97, 116]⟩, Value.string ⟨#[119, 114, 97, 112]⟩] 9) := by
  go_enter Try.func46, Try.ntmps46
  go_wp2
  go_ret
  exact ⟨rfl, rfl⟩
theorem hasWords (s : ByteArray) (w : World) : Calls Try.prog 45 #[.slice (some ⟨w.heap.size, 0, none⟩) 22 22, .string s] (w.alloc (Obj.cells #[Value.string ⟨#[115, 105, 122, 101]⟩, Value.string ⟨#[119, 104, 101, 114, 101]⟩, Value.string ⟨#[105, 110]⟩, Value.string ⟨#[100, 101, 102]⟩, Value.string ⟨#[111, 117, 116]⟩, Value.string ⟨#[115, 117, 109]⟩, Value.string ⟨#[112, 114, 111, 100]⟩, Value.string ⟨#[109, 105, 110]⟩, Value.string ⟨#[109, 97, 120]⟩, Value.string ⟨#[115, 99, 97, 110]⟩, Value.string ⟨#[111, 118, 101, 114]⟩, Value.string ⟨#[105, 102]⟩, Value.string ⟨#[99, 97, 115, 116]⟩, Value.string ⟨#[102, 114, 97, 99]⟩, Value.string ⟨#[105, 110, 116]⟩, Value.string ⟨#[102, 105, 120]⟩, Value.string ⟨#[99, 101, 105, 108]⟩, Value.string ⟨#[102, 108, 111, 111, 114]⟩, Value.string ⟨#[122, 101, 114, 111]⟩, Value.string ⟨#[101, 118, 101, 110]⟩, Value.string ⟨#[115, 97, 116]⟩, Value.string ⟨#[119, 114, 97, 112]⟩] 9)) fun e w' => e = .returned (.bool (kwB s.toList)) ∧ (w.alloc (Obj.cells #[Value.string ⟨#[115, 105, 122, 101]⟩, Value.string ⟨#[119, 104, 101, 114, 101]⟩, Value.string ⟨#[105, 110]⟩, Value.string ⟨#[100, 101, 102]⟩, Value.string ⟨#[111, 117, 116]⟩, Value.string ⟨#[115, 117, 109]⟩, Value.string ⟨#[112, 114, 111, 100]⟩, Value.string ⟨#[109, 105, 110]⟩, Value.string ⟨#[109, 97, 120]⟩, Value.string ⟨#[115, 99, 97, 110]⟩, Value.string ⟨#[111, 118, 101, 114]⟩, Value.string ⟨#[105, 102]⟩, Value.string ⟨#[99, 97, 115, 116]⟩, Value.string ⟨#[102, 114, 97, 99]⟩, Value.string ⟨#[105, 110, 116]⟩, Value.string ⟨#[102, 105, 120]⟩, Value.string ⟨#[99, 101, 105, 108]⟩, Value.string ⟨#[102, 108, 111, 111, 114]⟩, Value.string ⟨#[122, 101, 114, 111]⟩, Value.string ⟨#[101, 118, 101, 110]⟩, Value.string ⟨#[115, 97, 116]⟩, Value.string ⟨#[119, 114, 97, 112]⟩] 9)) = w' := by
  have h := hasT (some ⟨w.heap.size, 0, none⟩) kwb 22 s (w.alloc (Obj.cells #[Value.string ⟨#[115, 105, 122, 101]⟩, Value.string ⟨#[119, 104, 101, 114, 101]⟩, Value.string ⟨#[105, 110]⟩, Value.string ⟨#[100, 101, 102]⟩, Value.string ⟨#[111, 117, 116]⟩, Value.string ⟨#[115, 117, 109]⟩, Value.string ⟨#[112, 114, 111, 100]⟩, Value.string ⟨#[109, 105, 110]⟩, Value.string ⟨#[109, 97, 120]⟩, Value.string ⟨#[115, 99, 97, 110]⟩, Value.string ⟨#[111, 118, 101, 114]⟩, Value.string ⟨#[105, 102]⟩, Value.string ⟨#[99, 97, 115, 116]⟩, Value.string ⟨#[102, 114, 97, 99]⟩, Value.string ⟨#[105, 110, 116]⟩, Value.string ⟨#[102, 105, 120]⟩, Value.string ⟨#[99, 101, 105, 108]⟩, Value.string ⟨#[102, 108, 111, 111, 114]⟩, Value.string ⟨#[122, 101, 114, 111]⟩, Value.string ⟨#[101, 118, 101, 110]⟩, Value.string ⟨#[115, 97, 116]⟩, Value.string ⟨#[119, 114, 97, 112]⟩] 9)) (by unfold maxLen; decide) (Lib.hid (words_cells w))
  rw [kwb_any] at h
  exact h
theorem nmB_no {s : ByteArray} (h : ¬ (1 ≤ s.size ∧ s.size ≤ 16)) : nmB s = false := by unfold nmB; rw [decide_eq_false h]; rfl
/-- A byte at a place of a name. -/
def okc (i : Nat) (c : Int) : Bool := let1 c || (decide (0 < i) && ((decide (48 ≤ c) && decide (c ≤ 57)) || (c == 95)))
theorem okc_wd {s : ByteArray} (h : 1 ≤ s.size) : (let1 (bt s 0) && (List.range s.size).all (fun k => wd (bt s k))) = (List.range s.size).all (fun k => okc k (bt s k)) := by
  rw [Bool.eq_iff_iff, Bool.and_eq_true, List.all_eq_true, List.all_eq_true]
  constructor
  · rintro ⟨h1, h2⟩ k hk
    have := h2 k hk
    by_cases h0 : k = 0
    · subst h0; unfold okc; rw [h1]; rfl
    · unfold okc; unfold wd at this; rw [decide_eq_true (show 0 < k by omega)]; simpa using this
  · intro h1
    have h0 := h1 0 (List.mem_range.2 (by omega))
    refine ⟨by unfold okc at h0; simpa using h0, fun k hk => ?_⟩
    have := h1 k hk
    unfold okc at this
    unfold wd
    rw [Bool.or_eq_true] at this ⊢
    rcases this with h | h
    · exact .inl h
    · rw [Bool.and_eq_true] at h; exact .inr h.2
theorem nm_bad {s : ByteArray} {k : Nat} (hk : k < s.size) (h : okc k (bt s k) = false) : ((List.range s.size).all (fun k => okc k (bt s k))) = false := by
  rw [List.all_eq_false]
  exact ⟨k, List.mem_range.2 hk, by rw [h]; simp⟩
theorem nm_all {s : ByteArray} {k : Nat} (hk : k = s.size) (h : ∀ j, j < k → okc j (bt s j) = true) : ((List.range s.size).all (fun k => okc k (bt s k))) = true := by
  rw [List.all_eq_true]
  intro j hj
  exact h j (by have := List.mem_range.1 hj; omega)
set_option maxHeartbeats 8000000 in
theorem name (s : ByteArray) (w : World) (hs : s.size ≤ maxLen) : Calls Try.prog 38 #[.string s] w fun e w' => e = .returned (.bool (nmB s)) ∧ Below w.heap.size w w' := by
  have HW := Lib.hid (hasWords s w)
  unfold maxLen at hs
  by_cases h1 : 1 ≤ s.size ∧ s.size ≤ 16
  · obtain ⟨h1, h2⟩ := h1
    have m1 : decide ((s.size : Int) < 1) = false := decide_eq_false (by omega)
    have m2 : decide (s.size < 1) = false := decide_eq_false (by omega)
    have n1 : decide ((16 : Int) < s.size) = false := decide_eq_false (by omega)
    have n2 : decide (16 < s.size) = false := decide_eq_false (by omega)
    have n3 : (s.size == 0) = false := beq_false_of_ne (by omega)
    have hV : nmB s = ((List.range s.size).all (fun k => okc k (bt s k)) && !kwB s.toList) := by rw [← okc_wd h1]; unfold nmB; rw [decide_eq_true ⟨h1, h2⟩, Bool.true_and, Bool.and_assoc]
    rw [hV]
    have BE := Lib.hid fun (k : Nat) (hk : k < s.size) => bt_at hk
    have BK : Below w.heap.size w (w.alloc (Obj.cells #[Value.string ⟨#[115, 105, 122, 101]⟩, Value.string ⟨#[119, 104, 101, 114, 101]⟩, Value.string ⟨#[105, 110]⟩, Value.string ⟨#[100, 101, 102]⟩, Value.string ⟨#[111, 117, 116]⟩, Value.string ⟨#[115, 117, 109]⟩, Value.string ⟨#[112, 114, 111, 100]⟩, Value.string ⟨#[109, 105, 110]⟩, Value.string ⟨#[109, 97, 120]⟩, Value.string ⟨#[115, 99, 97, 110]⟩, Value.string ⟨#[111, 118, 101, 114]⟩, Value.string ⟨#[105, 102]⟩, Value.string ⟨#[99, 97, 115, 116]⟩, Value.string ⟨#[102, 114, 97, 99]⟩, Value.string ⟨#[105, 110, 116]⟩, Value.string ⟨#[102, 105, 120]⟩, Value.string ⟨#[99, 101, 105, 108]⟩, Value.string ⟨#[102, 108, 111, 111, 114]⟩, Value.string ⟨#[122, 101, 114, 111]⟩, Value.string ⟨#[101, 118, 101, 110]⟩, Value.string ⟨#[115, 97, 116]⟩, Value.string ⟨#[119, 114, 97, 112]⟩] 9)) := (Below.refl _ _).alloc (Nat.le_refl _) _
    obtain ⟨q, hq⟩ : ∃ q, kwB s.toList = q := ⟨_, rfl⟩
    rw [hq] at HW ⊢
    clear hV hq
    cases q
    · rw [Bool.not_false, Bool.and_true]
      go_enter Try.func38, Try.ntmps38
      go_wp2_with (first | (go_at_call 46; refine (words _).mono ?_; rintro e w' ⟨rfl, rfl⟩) | (go_at_call 45; refine (HW.out).mono ?_; rintro e w' ⟨rfl, rfl⟩))
      generalize w.alloc (Obj.cells #[Value.string ⟨#[115, 105, 122, 101]⟩, Value.string ⟨#[119, 104, 101, 114, 101]⟩, Value.string ⟨#[105, 110]⟩, Value.string ⟨#[100, 101, 102]⟩, Value.string ⟨#[111, 117, 116]⟩, Value.string ⟨#[115, 117, 109]⟩, Value.string ⟨#[112, 114, 111, 100]⟩, Value.string ⟨#[109, 105, 110]⟩, Value.string ⟨#[109, 97, 120]⟩, Value.string ⟨#[115, 99, 97, 110]⟩, Value.string ⟨#[111, 118, 101, 114]⟩, Value.string ⟨#[105, 102]⟩, Value.string ⟨#[99, 97, 115, 116]⟩, Value.string ⟨#[102, 114, 97, 99]⟩, Value.string ⟨#[105, 110, 116]⟩, Value.string ⟨#[102, 105, 120]⟩, Value.string ⟨#[99, 101, 105, 108]⟩, Value.string ⟨#[102, 108, 111, 111, 114]⟩, Value.string ⟨#[122, 101, 114, 111]⟩, Value.string ⟨#[101, 118, 101, 110]⟩, Value.string ⟨#[115, 97, 116]⟩, Value.string ⟨#[119, 114, 97, 112]⟩] 9) = wa at *
      go_loop [3] (fun i => ∃ k : Nat, i = .int .i64 k ∧ k ≤ s.size ∧ Hid (∀ j, j < k → okc j (bt s j) = true)) (fun i => s.size - (intOf i).toNat)
      case atStart => exact ⟨0, rfl, by omega, Lib.hid fun j hj => by omega⟩
      case round =>
        obtain ⟨k, rfl, hk, hL⟩ := hrel
        have kk : (0 : Int) ≤ k := by omega
        by_cases hlt : k < s.size
        · have kn : (k : Int) < s.size := by omega
          have hbt := bt_at hlt
          have HBT := Lib.hid hbt
          clear hbt
          rcases (by omega : (s[k].toNat : Int) < 48 ∨ (48 ≤ (s[k].toNat : Int) ∧ (s[k].toNat : Int) ≤ 57) ∨ (57 < (s[k].toNat : Int) ∧ (s[k].toNat : Int) < 97) ∨ (97 ≤ (s[k].toNat : Int) ∧ (s[k].toNat : Int) ≤ 122) ∨ 122 < (s[k].toNat : Int)) with h | ⟨h, h'⟩ | ⟨h, h'⟩ | ⟨h, h'⟩ | h
          all_goals
            by_cases k0 : k = 0
            all_goals
              first | have kz : (0 : Int) < k := by omega | have kz : (k : Int) ≤ 0 := by omega
              go_wp2
              all_goals first
                | (have ho : okc k (bt s k) = false := by
                     rw [HBT.out]; unfold okc let1
                     first | (simp; omega) | (simp_all; done) | (simp_all; omega)
                   go_ret
                   exact ⟨ret_bool (nm_bad hlt ho).symm, BK⟩)
                | (have ho : okc k (bt s k) = true := by
                     rw [HBT.out]; unfold okc let1
                     first | (simp; omega) | (simp_all; done) | (simp_all; omega)
                   have hL2 : Hid (∀ j, j < k + 1 → okc j (bt s j) = true) := Lib.hid fun j hj => by
                     rcases (by omega : j < k ∨ j = k) with h | rfl
                     · exact hL.out j h
                     · exact ho
                   clear ho
                   go_round
                   case rel => exact ⟨k + 1, by go_num, by omega, hL2⟩
                   case measure => simp [intOf]; omega)
                | (exfalso; omega)
                | (exfalso; simp_all; done)
        · have E := Lib.hid (nm_all (k := k) (by omega) hL.out)
          go_wp2
          go_ret
          exact ⟨ret_bool E.out.symm, BK⟩
    · go_enter Try.func38, Try.ntmps38
      go_wp2_with (first | (go_at_call 46; refine (words _).mono ?_; rintro e w' ⟨rfl, rfl⟩) | (go_at_call 45; refine (HW.out).mono ?_; rintro e w' ⟨rfl, rfl⟩))
      go_ret
      exact ⟨ret_bool (by simp), BK⟩
  · rw [nmB_no h1]
    by_cases h0 : s.size < 1
    · have m1 : decide ((s.size : Int) < 1) = true := decide_eq_true (by omega)
      have m2 : decide (s.size < 1) = true := decide_eq_true (by omega)
      clear h1
      go_enter Try.func38, Try.ntmps38
      go_wp2
      go_ret
      exact ⟨rfl, Below.refl _ _⟩
    · have m1 : decide ((s.size : Int) < 1) = false := decide_eq_false (by omega)
      have m2 : decide (s.size < 1) = false := decide_eq_false (by omega)
      have n1 : decide ((16 : Int) < s.size) = true := decide_eq_true (by omega)
      have n2 : decide (16 < s.size) = true := decide_eq_true (by omega)
      clear h1
      go_enter Try.func38, Try.ntmps38
      go_wp2
      go_ret
      exact ⟨rfl, Below.refl _ _⟩
end Go.Proofs.Ytghnigmmkenddaa.Nm
