/- Linear forms: the statement on substitutions. -/
import Derived.Test.YthdeaneffnlffaaY56
import Derived.Test.YthdeaneffnlffaaY6
namespace Go.Proofs.Ythdeaneffnlffaa.Ln
open Go.ChangeShapes Go.WideShapes Go.ChangeAt Go.RowKit
set_option linter.unusedVariables false
set_option linter.unusedSimpArgs false
theorem adR_len3 (k : Int) (xs : List Mo) (k' : Int) (ys : List Mo) : (adR k xs k' ys).2.1.length ≤ xs.length + ys.length := by
  unfold adR
  split
  · simp
  · split
    · exact Nat.le_trans (flt_len _) (mg_len _ _)
    · simp
theorem subR_len (k : Int) (xs : List Mo) (s : ByteArray) (k' : Int) (ys : List Mo) : (subR k xs s k' ys).2.1.length ≤ xs.length + ys.length := by
  unfold subR
  split
  · simp
  · split
    · simp
    · split
      · refine Nat.le_trans (adR_len3 _ _ _ _) ?_
        have := rmN_len s xs
        have := sclR_len (co xs s) k' ys
        omega
      · simp
set_option maxRecDepth 100000 in
set_option maxHeartbeats 16000000 in
theorem law_substitutes (k : Int) (p : Option Addr) (xs : List Mo) (c : Nat) (s : ByteArray) (k' : Int) (q : Option Addr) (ys : List Mo) (d : Nat) (w : World) (hk : -9223372036854775808 ≤ k ∧ k ≤ 9223372036854775807) (hc : xs.length ≤ c) (hm : c ≤ maxLen) (RA : Hid (SlM w p xs))
    (hx : ∀ z ∈ xs, z.1.size ≤ maxLen ∧ (-9223372036854775808 ≤ z.2 ∧ z.2 ≤ 9223372036854775807)) (hs : s.size ≤ maxLen) (hk' : -9223372036854775808 ≤ k' ∧ k' ≤ 9223372036854775807) (hd : ys.length ≤ d) (hm' : d ≤ maxLen) (RB : Hid (SlM w q ys))
    (hy : ∀ z ∈ ys, z.1.size ≤ maxLen ∧ (-9223372036854775808 ≤ z.2 ∧ z.2 ≤ 9223372036854775807)) :
    Calls Try.prog 5 #[.agg #[.int .i64 k, .slice p xs.length c], .string s, .agg #[.int .i64 k', .slice q ys.length d]] w fun e w' => e = .returned (.bool true) ∧ Below w.heap.size w w' := by
  have EX := Lib.hid alive
  have RS := Lib.hid (bd_get hx)
  have RT := Lib.hid (bd_get hy)
  have C0 := Lib.hid fun w R => small2 k p xs c w (Nat.le_trans hc hm) R
  have C0' := Lib.hid fun w R => small2 k' q ys d w (Nat.le_trans hd hm') R
  have C1 := Lib.hid fun (hl : xs.length ≤ 1000) (hl' : ys.length ≤ 1000) w R R' => sub1 k p xs c s k' q ys d w hl hl' hs R R' RS RT hk.1 hk.2 hk'.1 hk'.2
  have C2 := Lib.hid fun (hl : xs.length ≤ 1000) (hl' : ys.length ≤ 1000) w R R' => sub2 k p xs c s k' q ys d w hl hl' hs R R' RS RT hk.1 hk.2 hk'.1 hk'.2
  have C3 := Lib.hid fun K q1 (ys : List Mo) c1 q2 c2 w hl R1 R2 => linEq K q1 ys c1 q2 c2 w hl R1 R2
  have K : Below w.heap.size w ((w.alloc (Obj.cells #[Value.int .i64 k, Value.slice p xs.length c] 24)).alloc (Obj.cells #[Value.int .i64 k', Value.slice q ys.length d] 24)) := two_below _ _
  have F : Cl [(w.heap.size, 0, .int .i64 k), (w.heap.size, 1, .slice p xs.length c), (w.heap.size + 1, 0, .int .i64 k'), (w.heap.size + 1, 1, .slice q ys.length d)] ((w.alloc (Obj.cells #[Value.int .i64 k, Value.slice p xs.length c] 24)).alloc (Obj.cells #[Value.int .i64 k', Value.slice q ys.length d] 24)) := Cl.cons (by go_cell) (by first | go_cell | simp) (Cl.cons (by go_cell) (by first | go_cell | simp) (Cl.cons (by go_cell) (by first | go_cell | simp) (Cl.cons (by go_cell) (by first | go_cell | simp) (Cl.nil _))))
  have HS := Lib.hid fun h : smB xs = true => (smB_yes h).1
  have HS' := Lib.hid fun h : smB ys = true => (smB_yes h).1
  have HL := Lib.hid (subR_len k xs s k' ys)
  generalize subR k xs s k' ys = R at *
  obtain ⟨K0, zs, er⟩ := R
  generalize smB xs = v at *
  generalize smB ys = v' at *
  clear hx hy hc hd hm hm'
  unfold LR at *
  unfold Lv at *
  simp only at C1 C2 HL
  go_enter Try.func5, Try.ntmps5
  go_wp2_with fail
  generalize ((w.alloc (Obj.cells #[Value.int .i64 k, Value.slice p xs.length c] 24)).alloc (Obj.cells #[Value.int .i64 k', Value.slice q ys.length d] 24)) = z at *
  have f0 := F.head
  have f1 := F.tail.head
  have g0 := F.tail.tail.head
  have g1 := F.tail.tail.tail.head
  skip
  refine (C0.out _ (RA.out.up K)).mono ?_
  rintro e wn ⟨rfl, hb⟩
  replace F := F.below hb
  replace K := K.trans (hb.mono K.size)
  clear hb
  clear f0 f1 g0 g1
  cases v
  case false =>
    go_wp2_with fail
    refine (EX.out _).mono ?_
    rintro e wn ⟨rfl, hb⟩
    go_wp2
    go_ret
    exact ⟨rfl, K.trans (hb.mono K.size)⟩
  case true =>
    have hl := HS.out rfl
    have f0 := F.head
    have f1 := F.tail.head
    have g0 := F.tail.tail.head
    have g1 := F.tail.tail.tail.head
    go_wp2_with fail
    refine (C0'.out _ (RB.out.up K)).mono ?_
    rintro e wn ⟨rfl, hb⟩
    replace F := F.below hb
    replace K := K.trans (hb.mono K.size)
    clear hb
    clear f0 f1 g0 g1
    cases v'
    case false =>
      go_wp2_with fail
      refine (EX.out _).mono ?_
      rintro e wn ⟨rfl, hb⟩
      go_wp2
      go_ret
      exact ⟨rfl, K.trans (hb.mono K.size)⟩
    case true =>
      have hl' := HS'.out rfl
      have hly := HL.out
      have f0 := F.head
      have f1 := F.tail.head
      have g0 := F.tail.tail.head
      have g1 := F.tail.tail.tail.head
      go_wp2_with fail
      refine (C1.out (by omega) (by omega) _ (RA.out.up K) (RB.out.up K)).mono ?_
      rintro e wn ⟨q1, c1, rfl, s1, hb⟩
      replace F := F.below hb
      replace K := K.trans (hb.mono K.size)
      clear hb
      clear f0 f1 g0 g1
      replace F := Cl.cons (b := wn.heap.size) (o := 0) (v := .int .i64 K0) (by go_cell) (by first | go_cell | simp) (Cl.cons (b := wn.heap.size) (o := 1) (v := .slice q1 zs.length c1) (by go_cell) (by first | go_cell | simp) (F.below ((Below.refl _ _).alloc (Nat.le_refl _) (Obj.cells #[Value.int .i64 K0, Value.slice q1 zs.length c1] 24))))
      replace K := K.alloc K.size (Obj.cells #[Value.int .i64 K0, Value.slice q1 zs.length c1] 24)
      replace s1 := SlM.keep ((Below.refl wn.heap.size wn).alloc (Nat.le_refl _) (Obj.cells #[Value.int .i64 K0, Value.slice q1 zs.length c1] 24)) s1
      have x0 := F.head
      have x1 := F.tail.head
      have f0 := F.tail.tail.head
      have f1 := F.tail.tail.tail.head
      have g0 := F.tail.tail.tail.tail.head
      have g1 := F.tail.tail.tail.tail.tail.head
      go_wp2_with fail
      generalize wn.alloc (Obj.cells #[Value.int .i64 K0, Value.slice q1 zs.length c1] 24) = z5 at *
      generalize wn.heap.size = g5 at *
      clear x0 x1 f0 f1 g0 g1
      skip
      refine (C2.out (by omega) (by omega) _ (RA.out.up K) (RB.out.up K)).mono ?_
      rintro e wn ⟨q2, c2, rfl, s2, hb⟩
      replace F := F.below hb
      replace K := K.trans (hb.mono K.size)
      replace s1 := SlM.keep hb s1
      clear hb
      replace F := Cl.cons (b := wn.heap.size) (o := 0) (v := .int .i64 K0) (by go_cell) (by first | go_cell | simp) (Cl.cons (b := wn.heap.size) (o := 1) (v := .slice q2 zs.length c2) (by go_cell) (by first | go_cell | simp) (F.below ((Below.refl _ _).alloc (Nat.le_refl _) (Obj.cells #[Value.int .i64 K0, Value.slice q2 zs.length c2] 24))))
      replace K := K.alloc K.size (Obj.cells #[Value.int .i64 K0, Value.slice q2 zs.length c2] 24)
      replace s1 := SlM.keep ((Below.refl wn.heap.size wn).alloc (Nat.le_refl _) (Obj.cells #[Value.int .i64 K0, Value.slice q2 zs.length c2] 24)) s1
      replace s2 := SlM.keep ((Below.refl wn.heap.size wn).alloc (Nat.le_refl _) (Obj.cells #[Value.int .i64 K0, Value.slice q2 zs.length c2] 24)) s2
      have y0 := F.head
      have y1 := F.tail.head
      have x0 := F.tail.tail.head
      have x1 := F.tail.tail.tail.head
      go_wp2_with fail
      generalize wn.alloc (Obj.cells #[Value.int .i64 K0, Value.slice q2 zs.length c2] 24) = z7 at *
      generalize wn.heap.size = g7 at *
      refine (C3.out _ _ _ _ _ _ _ (by unfold maxLen; omega) (Lib.hid s1) (Lib.hid s2)).mono ?_
      rintro e wn ⟨rfl, hb⟩
      replace K := K.trans (hb.mono K.size)
      clear hb
      go_wp2_with fail
      refine (EX.out _).mono ?_
      rintro e wn ⟨rfl, hb⟩
      go_wp2
      go_ret
      exact ⟨rfl, K.trans (hb.mono K.size)⟩
end Go.Proofs.Ythdeaneffnlffaa.Ln
