/- The lexer: Tokenize. -/
import Derived.Test.YtipeapjbodnagaaX3
import Derived.Laws.OwnMore
import Derived.Laws.AppendOwn
import Derived.OneCell
import Derived.Deep.Onto
namespace Go.Proofs.Ytipeapjbodnagaa.Lx
open Go.ChangeShapes Go.WideShapes Go.ChangeAt Go.RowKit
open Go.Proofs.Ytipeapjbodnagaa.Nm
set_option linter.unusedVariables false

/-- A token: its kind, its place, its text. -/
abbrev Tk := Int × Int × ByteArray
def tkC (t : Tk) : List Value := [.int .i64 t.1, .int .i64 t.2.1, .string t.2.2]
def tkCs (ts : List Tk) : List Value := ts.flatMap tkC
theorem tkCs_len (ts : List Tk) : (tkCs ts).length = ts.length * 3 := by
  induction ts with
  | nil => rfl
  | cons t ts ih => unfold tkCs at ih ⊢; rw [List.flatMap_cons, List.length_append, ih, List.length_cons]; show 3 + _ = _; omega
theorem tkCs_snoc (ts : List Tk) (t : Tk) : tkCs (ts ++ [t]) = tkCs ts ++ tkC t := by unfold tkCs; rw [List.flatMap_append]; simp
def tz (s : ByteArray) : Nat → Nat → List Tk → List Tk × Int × Int
  | 0, _, acc => (acc, 0, 0)
  | f + 1, k, acc => if k < s.size then
      if (kd s.data.toList k).1 = 0 then ([], (k : Int), 5) else if (kd s.data.toList k).1 = 1 ∧ k + 16 < (kd s.data.toList k).2 then ([], (k : Int), 2)
      else tz s f (skp s.data.toList (kd s.data.toList k).2) (acc ++ [((kd s.data.toList k).1, (k : Int), s.extract k (kd s.data.toList k).2)])
    else (acc, 0, 0)
def tkz (s : ByteArray) : List Tk × Int × Int := if 65536 < s.size then ([], 0, 2) else tz s (s.size + 1) (skp s.data.toList 0) []
theorem tz_end {s : ByteArray} {f k : Nat} {acc : List Tk} (h : s.size ≤ k) : tz s f k acc = (acc, 0, 0) := by
  cases f with
  | zero => rfl
  | succ f => unfold tz; rw [if_neg (by omega)]
theorem tz_bad {s : ByteArray} {f k : Nat} {acc : List Tk} (h : k < s.size) (h2 : (kd s.data.toList k).1 = 0) : tz s (f + 1) k acc = ([], (k : Int), 5) := by rw [tz, if_pos h, if_pos h2]
theorem tz_long {s : ByteArray} {f k : Nat} {acc : List Tk} (h : k < s.size) (h2 : (kd s.data.toList k).1 = 1) (h3 : k + 16 < (kd s.data.toList k).2) : tz s (f + 1) k acc = ([], (k : Int), 2) := by rw [tz, if_pos h, if_neg (by rw [h2]; decide), if_pos ⟨h2, h3⟩]
theorem tz_go {s : ByteArray} {f k : Nat} {acc : List Tk} (h : k < s.size) (h2 : (kd s.data.toList k).1 ≠ 0) (h3 : ¬ ((kd s.data.toList k).1 = 1 ∧ k + 16 < (kd s.data.toList k).2)) :
    tz s (f + 1) k acc = tz s f (skp s.data.toList (kd s.data.toList k).2) (acc ++ [((kd s.data.toList k).1, (k : Int), s.extract k (kd s.data.toList k).2)]) := by rw [tz, if_pos h, if_neg h2, if_neg h3]
theorem info47 : (Try.prog.info? 47).map (fun i => (i.zero, i.size, i.bytes)) = some (some (.agg #[.int .i64 0, .int .i64 0, .string ⟨#[]⟩]), 3, 32) := by kernel_rfl
/-- What Tokenize leaves: its tokens in a row of its own. -/
def TW (r : List Tk × Int × Int) (w : World) (e : Ending) (w' : World) : Prop := ∃ v, e = .returned (.tuple #[v, .int .i64 r.2.1, .int .i64 r.2.2]) ∧ w'.ownsRow w.heap.size 47 3 v r.1.length (tkCs r.1) ∧ Below w.heap.size w w'
set_option maxRecDepth 100000 in
set_option maxHeartbeats 8000000 in
theorem tokenize (s : ByteArray) (w : World) (hs : s.size ≤ maxLen) : Calls Try.prog 31 #[.string s] w (TW (tkz s) w) := by
  by_cases h6 : 65536 < s.size
  · rw [show tkz s = ([], 0, 2) by unfold tkz; rw [if_pos h6]]
    have l1 : decide ((65536 : Int) < s.size) = true := decide_eq_true (by omega)
    have l2 : decide (65536 < s.size) = true := decide_eq_true h6
    clear h6
    go_enter Try.func31, Try.ntmps31
    go_wp2
    exact bodyPost_ret (v := .tuple #[.slice none 0 0, .int .i64 0, .int .i64 2]) (by simp [results, Try.results31, go_sem]) rfl ⟨.slice none 0 0, rfl, World.ownsRow_nil _ _ _ _, Below.refl _ _⟩
  · have l1 : decide ((65536 : Int) < s.size) = false := decide_eq_false (by omega)
    have l2 : decide (65536 < s.size) = false := decide_eq_false h6
    obtain ⟨V, hV0⟩ : ∃ V, tkz s = V := ⟨_, rfl⟩
    have HV0 := Lib.hid (show tz s (s.size + 1) (skp s.data.toList 0) [] = V by rw [← hV0]; unfold tkz; rw [if_neg h6])
    rw [hV0]
    have hsz : s.size ≤ 65536 := by omega
    obtain ⟨i0, hi, hz0, hz1, hz2⟩ := info_parts info47
    have CK := Lib.hid fun (k : Nat) (hk : k ≤ s.size) w => skip s k w hs hk
    have CN := Lib.hid fun (k : Nat) (hk : k < s.size) w => scan s k w hs hk
    have C0 := Lib.hid fun w => (show Calls Try.prog 67 #[.string s, .int .i64 0] w fun e w' => e = .returned (.int .i64 ((skp s.data.toList 0 : Nat) : Int)) ∧ w = w' from CK.out 0 (by omega) w)
    have HL := Lib.hid (len_data s)
    have hst := skp_le (l := s.data.toList) (k := 0) (by omega)
    rw [HL.out] at hst
    clear hV0 h6
    obtain ⟨k00, hk00⟩ : ∃ k, skp s.data.toList 0 = k := ⟨_, rfl⟩
    rw [hk00] at C0 hst HV0
    clear hk00
    go_enter Try.func31, Try.ntmps31
    go_wp2_with (go_at_call 67; refine (C0.out _).mono ?_; rintro e w' ⟨rfl, rfl⟩)
    go_loopw [5, 6] (fun v a wr => ∃ (f k : Nat) (acc : List Tk), a = .int .i64 (k : Int) ∧ k ≤ s.size ∧ s.size < k + f ∧ acc.length ≤ k ∧ Below w.heap.size w wr ∧ Hid (tz s f k acc = V) ∧ Hid (wr.ownsRow w.heap.size 47 3 v acc.length (tkCs acc))) (fun _ a _ => s.size - (intOf a).toNat)
    case atStart => exact ⟨s.size + 1, k00, [], rfl, hst.2, by omega, by simp, Below.refl _ _, HV0, Lib.hid (World.ownsRow_nil _ _ _ _)⟩
    case round =>
      obtain ⟨f, k, acc, rfl, hk, hf, hac, hB, hT, hO⟩ := hrel
      by_cases hlt : k < s.size
      · have k0 : (0 : Int) ≤ k := by omega
        have k1 : (k : Int) < s.size := by omega
        obtain ⟨f, rfl⟩ : ∃ f', f = f' + 1 := ⟨f - 1, by omega⟩
        have hbd := kd_bd (l := s.data.toList) (k := k) (by rw [HL.out]; exact hlt)
        rw [HL.out] at hbd
        have Tb := Lib.hid fun h2 => (tz_bad (f := f) (acc := acc) hlt h2).symm.trans hT.out
        have Tl := Lib.hid fun h2 h3 => (tz_long (f := f) (acc := acc) hlt h2 h3).symm.trans hT.out
        have Tg := Lib.hid fun h2 h3 => (tz_go (f := f) (acc := acc) hlt h2 h3).symm.trans hT.out
        have CN2 := Lib.hid (CN.out k hlt)
        have hsx : (kd s.data.toList k).1 ≠ 0 → k < skp s.data.toList (kd s.data.toList k).2 ∧ skp s.data.toList (kd s.data.toList k).2 ≤ s.size := fun h => by
          have h1 := skp_le (l := s.data.toList) (k := (kd s.data.toList k).2) (by rw [HL.out]; exact hbd.2.1)
          rw [HL.out] at h1
          have := hbd.2.2 h
          omega
        have CK2 := Lib.hid (CK.out (kd s.data.toList k).2 hbd.2.1)
        obtain ⟨E, hE⟩ : ∃ E, kd s.data.toList k = E := ⟨_, rfl⟩
        rw [hE] at hbd Tb Tl Tg CN2 hsx CK2
        obtain ⟨a, b⟩ := E
        unfold SC at CN2
        simp only at hbd Tb Tl Tg CN2 hsx CK2
        obtain ⟨⟨a0, a1⟩, b0, b1⟩ := hbd
        clear hE hT
        by_cases ha : a = 0
        · subst ha
          have E := Lib.hid (Tb.out rfl)
          clear Tb Tl Tg hsx b1
          go_wp2_with (go_at_call 68; refine (CN2.out _).mono ?_; rintro e w' ⟨rfl, rfl⟩)
          refine bodyPost_ret (v := .tuple #[.slice none 0 0, .int .i64 (k : Int), .int .i64 5]) (by simp [results, Try.results31, go_sem]) rfl ?_
          rw [← E.out]
          exact ⟨.slice none 0 0, rfl, World.ownsRow_nil _ _ _ _, hB⟩
        · have b2 := b1 ha
          have hsx2 := hsx ha
          have q0 : (a == 0) = false := beq_false_of_ne ha
          have q1 : decide (a = 0) = false := decide_eq_false ha
          by_cases hlong : a = 1 ∧ k + 16 < b
          · obtain ⟨rfl, h16⟩ := hlong
            have E := Lib.hid (Tl.out rfl h16)
            have h17 : (16 : Int) < (b : Int) - k := by omega
            have h18 : decide ((16 : Int) < (b : Int) - k) = true := decide_eq_true h17
            clear Tb Tl Tg hsx b1 ha q0 q1 hsx2
            go_wp2_with (go_at_call 68; refine (CN2.out _).mono ?_; rintro e w' ⟨rfl, rfl⟩)
            refine bodyPost_ret (v := .tuple #[.slice none 0 0, .int .i64 (k : Int), .int .i64 2]) (by simp [results, Try.results31, go_sem]) rfl ?_
            rw [← E.out]
            exact ⟨.slice none 0 0, rfl, World.ownsRow_nil _ _ _ _, hB⟩
          · have ET := Lib.hid (Tg.out ha hlong)
            obtain ⟨x, hx⟩ : ∃ x, s.extract k b = x := ⟨_, rfl⟩
            have HX := Lib.hid hx
            obtain ⟨K, hK⟩ : ∃ K, skp s.data.toList b = K := ⟨_, rfl⟩
            rw [hx, hK] at ET
            rw [hK] at hsx2 CK2
            have bb : (0 : Int) ≤ b := by omega
            have bk : (k : Int) ≤ b := by omega
            have bs : (b : Int) ≤ s.size := by omega
            clear Tb Tl Tg hsx b1 hx hK
            by_cases ha1 : a = 1
            all_goals
              first
              | (have q2 : (a == 1) = true := beq_iff_eq.2 ha1
                 have h17 : ¬ (16 : Int) < (b : Int) - k := by omega
                 have h18 : decide ((16 : Int) < (b : Int) - k) = false := decide_eq_false h17
                 clear hlong ha1)
              | (have q2 : (a == 1) = false := beq_false_of_ne ha1
                 have q3 : decide (a = 1) = false := decide_eq_false ha1
                 clear hlong ha1)
              go_wp2_with (first
                | (go_at_call 68; refine (CN2.out _).mono ?_; rintro e w' ⟨rfl, rfl⟩)
                | (go_at_call 67; refine (CK2.out _).mono ?_; rintro e w' ⟨rfl, rfl⟩)
                | (at_builtin; refine wpList_append_own _ rfl _ _ 41 rfl w.heap.size 47 i0 (.agg #[.int .i64 0, .int .i64 0, .string ⟨#[]⟩]) 3 32 Try.underlying41 hi hz0 hz1 hz2 rfl (by decide) _ _ _ rfl (hO.out.alloc _) ⟨wr.heap.size, 0, none⟩ 1 1 [.int .i64 a, .int .i64 (k : Int), .string (s.extract k b)] rfl rfl ?_ ?_ ?_ ?_ ?_ ?_))
              · intro j u hj
                rcases j with _ | _ | _ | j
                · cases hj; go_cell
                · cases hj; go_cell
                · cases hj; go_cell
                · simp at hj
              · intro u hu
                simp at hu
                rcases hu with rfl | rfl | rfl <;> rfl
              · unfold maxLen; omega
              · omega
              · have := hB.size; simp; omega
              intro v' w1 hown' hgrow _
              have hO2 : Hid (w1.ownsRow w.heap.size 47 3 v' (acc ++ [(a, (k : Int), x)]).length (tkCs (acc ++ [(a, (k : Int), x)]))) := Lib.hid (by
                have h := hown'
                rw [HX.out] at h
                rw [tkCs_snoc, List.length_append]
                exact h)
              have hB2 : Below w.heap.size w w1 := (hB.alloc hB.size _).grown hgrow (by have := hB.size; simp; omega) (fun j hj => by have := (hO.out.lt j hj).1; omega)
              clear hown' hgrow hi hz0 hz1 hz2
              go_wp2_with (go_at_call 67; refine (CK2.out _).mono ?_; rintro e w' ⟨rfl, rfl⟩)
              go_roundw
              case rel => exact ⟨f, K, acc ++ [(a, (k : Int), x)], rfl, hsx2.2, by omega, by simp; omega, hB2, ET, hO2⟩
              case measure => simp [intOf]; omega
      · have E := Lib.hid ((tz_end (s := s) (f := f) (acc := acc) (by omega)).symm.trans hT.out)
        clear hT
        go_wp2
        refine bodyPost_ret (v := .tuple #[u5, .int .i64 0, .int .i64 0]) (by simp [results, Try.results31, go_sem]) rfl ?_
        rw [← E.out]
        exact ⟨_, rfl, hO.out, hB⟩
end Go.Proofs.Ytipeapjbodnagaa.Lx
