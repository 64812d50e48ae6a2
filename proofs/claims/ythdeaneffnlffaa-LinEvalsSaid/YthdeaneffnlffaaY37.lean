/- Linear forms: the statement on values. -/
import Derived.Test.YthdeaneffnlffaaY36
import Derived.Test.YthdeaneffnlffaaY28
namespace Go.Proofs.Ythdeaneffnlffaa.Ln
open Go.ChangeShapes Go.WideShapes Go.ChangeAt Go.RowKit
set_option linter.unusedVariables false
set_option linter.unusedSimpArgs false
set_option maxRecDepth 100000 in
set_option maxHeartbeats 16000000 in
theorem law_evals (k : Int) (p : Option Addr) (xs : List Mo) (c : Nat) (q : Option Addr) (es : List Mo) (d : Nat) (w : World) (hk : -9223372036854775808 ≤ k ∧ k ≤ 9223372036854775807) (hc : xs.length ≤ c) (hm : c ≤ maxLen) (RA : Hid (SlM w p xs))
    (hx : ∀ z ∈ xs, z.1.size ≤ maxLen ∧ (-9223372036854775808 ≤ z.2 ∧ z.2 ≤ 9223372036854775807)) (hd : es.length ≤ d) (hm' : d ≤ maxLen) (RB : Hid (SlM w q es))
    (hy : ∀ z ∈ es, z.1.size ≤ maxLen ∧ (-9223372036854775808 ≤ z.2 ∧ z.2 ≤ 9223372036854775807)) :
    Calls Try.prog 6 #[.agg #[.int .i64 k, .slice p xs.length c], .slice q es.length d] w fun e w' => e = .returned (.bool true) ∧ Below w.heap.size w w' := by
  have EX := Lib.hid alive
  have RS := Lib.hid (bd_get hx)
  have RT := Lib.hid (bd_get hy)
  have C0 := Lib.hid fun w R => small2 k p xs c w (Nat.le_trans hc hm) R
  have C1 := Lib.hid fun (hl : xs.length ≤ 1000) w R R' => eval1 k p xs c q es d w hl (Nat.le_trans hd hm') R R' RS RT hk.1 hk.2
  have C2 := Lib.hid fun (hl : xs.length ≤ 1000) w R R' => eval2 k p xs c q es d w hl (Nat.le_trans hd hm') R R' RS RT hk.1 hk.2
  have K : Below w.heap.size w (w.alloc (Obj.cells #[Value.int .i64 k, Value.slice p xs.length c] 24)) := (Below.refl _ _).alloc (Nat.le_refl _) _
  have F : Cl [(w.heap.size, 0, .int .i64 k), (w.heap.size, 1, .slice p xs.length c)] (w.alloc (Obj.cells #[Value.int .i64 k, Value.slice p xs.length c] 24)) := Cl.cons (by go_cell) (by first | go_cell | simp) (Cl.cons (by go_cell) (by first | go_cell | simp) (Cl.nil _))
  have HS := Lib.hid fun h : smB xs = true => (smB_yes h).1
  generalize smB xs = v at *
  have hes : es.length ≤ maxLen := Nat.le_trans hd hm'
  unfold maxLen at hes
  clear hx hy hc hd hm hm'
  unfold Lv at *
  by_cases h40 : 40 < es.length
  · have d40 : (40 : Int) < es.length := by omega
    go_enter Try.func6, Try.ntmps6
    go_wp2_with fail
    generalize (w.alloc (Obj.cells #[Value.int .i64 k, Value.slice p xs.length c] 24)) = z at *
    skip
    refine (C0.out _ (RA.out.up K)).mono ?_
    rintro e wn ⟨rfl, hb⟩
    replace F := F.below hb
    replace K := K.trans (hb.mono K.size)
    clear hb
    cases v
    all_goals
      go_wp2_with fail
      refine (EX.out _).mono ?_
      rintro e wn ⟨rfl, hb⟩
      go_wp2
      go_ret
      exact ⟨rfl, K.trans (hb.mono K.size)⟩
  · have d40 : ¬ (40 : Int) < es.length := by omega
    go_enter Try.func6, Try.ntmps6
    go_wp2_with fail
    generalize (w.alloc (Obj.cells #[Value.int .i64 k, Value.slice p xs.length c] 24)) = z at *
    skip
    refine (C0.out _ (RA.out.up K)).mono ?_
    rintro e wn ⟨rfl, hb⟩
    replace F := F.below hb
    replace K := K.trans (hb.mono K.size)
    clear hb
    cases v
    case false =>
      go_wp2_with fail
      refine (EX.out _).mono ?_
      rintro e wn ⟨rfl, hb⟩
      go_wp2
      go_ret
      exact ⟨rfl, K.trans (hb.mono K.size)⟩
    case true =>
      have hl := HS.out rfl
      have f0 := F.head
      have f1 := F.tail.head
      go_wp2_with fail
      refine (C1.out (by omega) _ (RA.out.up K) (RB.out.up K)).mono ?_
      rintro e wn ⟨x, er, rfl, hE, hb⟩
      replace F := F.below hb
      replace K := K.trans (hb.mono K.size)
      clear hb
      clear f0 f1
      have f0 := F.head
      have f1 := F.tail.head
      go_wp2_with fail
      refine (C2.out (by omega) _ (RA.out.up K) (RB.out.up K)).mono ?_
      rintro e wn ⟨y, fr, rfl, hE2, hb⟩
      replace F := F.below hb
      replace K := K.trans (hb.mono K.size)
      clear hb
      obtain ⟨rfl, rfl⟩ := EV_one hE hE2
      clear f0 f1 hE hE2
      go_wp2_with fail
      refine (EX.out _).mono ?_
      rintro e wn ⟨rfl, hb⟩
      go_wp2
      go_ret
      exact ⟨rfl, K.trans (hb.mono K.size)⟩
end Go.Proofs.Ythdeaneffnlffaa.Ln
