/- Lifetimes: Validate of both. -/
import Derived.Test.YtghnigmmkenddaaL4
import Derived.Test.YtghnigmmkenddaaN3
import Derived.Maps.Own
import Derived.Maps.OwnOps
import Derived.Maps.OwnSet
import Derived.Maps.Views
import Derived.StringKeys
namespace Go.Proofs.Ytghnigmmkenddaa.Lv
open Go.ChangeShapes Go.WideShapes Go.ChangeAt Go.RowKit
open Go.Maps Go.Proofs.Ytghnigmmkenddaa.Nm
set_option linter.unusedVariables false
set_option linter.unusedSimpArgs false
/-- The look-up of a bool in a map of the call's own. -/
theorem wpList_lookup_own_bool {H : Type} {P : Program} (w : World) {ops : Array Oper} {rest : List Oper} {o : Oper} {a : Act} {Q : Exit → Act → World → Prop}
    (hg : o.guard = none) (m x : Operand) (t : TypeId) (hop : o.op = Op.lookup t m x false)
    (k e : TypeId) (K : Keyed P k) (ht : P.underlying t = some (.map k e)) (he : P.underlying e = some .bool) (hz : (zeroValue e).run P w = .ok (.bool false) w) (b n : Nat) (D : DataW H)
    (hm : a.eval m = .map (some b)) (hown : w.ownsMap P k (plainElem P e) b n D) (key : Value) (kl : Lit) (hx : a.eval x = key) (hkey : keyOf P k key = some kl)
    (hK : ∀ c : Bool, D.atKey kl (.lit (.bool false)) = .lit (.bool c) → wpList P ops Q rest (a.put o.dst (.bool c)) w) :
    wpList P ops Q (o :: rest) a w := by
  refine wpList_plain hg fun K' hK' => ?_
  obtain ⟨v, ps, hrun, hv⟩ := hown.lookup K ht hz (plainElem_bool he false) hkey
  have hb : ∃ c, v = .bool c ∧ D.atKey kl (.lit (.bool false)) = .lit (.bool c) := by
    unfold plainElem at hv
    rw [he] at hv
    cases v <;> simp at hv
    exact ⟨_, rfl, hv.1.symm⟩
  obtain ⟨c, rfl, hc⟩ := hb
  unfold Oper.wp
  simp [execOp, hop, hm, hx, hrun, Result.andThen]
  exact hK' _ _ (hK c hc)
theorem litB {a b : Bool} (h : (DataW.lit (.bool a) : DataW Unit) = .lit (.bool b)) : a = b := by injection h with h; injection h
def dup (pre : List Lf) (x : Lf) : Bool := pre.any fun y => y.1.toList == x.1.toList
def bad (x : Lf) : Bool := decide (x.2.1 < 0) || (decide (x.2.2.1 < x.2.1) || (decide (x.2.2.2 < 1) || decide (4096 < x.2.2.2)))
def vs (pre : List Lf) (x : Lf) : Int := if nmB x.1 = false then 7 else if dup pre x = true then 8 else if bad x = true then 1 else 0
def vgo : List Lf → List Lf → Int
  | _, [] => 0
  | pre, x :: r => if vs pre x = 0 then vgo (pre ++ [x]) r else vs pre x
def vE (xs : List Lf) : Int := vgo [] xs
theorem vgo_at {xs : List Lf} {k : Nat} (h : k < xs.length) : vgo (xs.take k) (xs.drop k) = if vs (xs.take k) xs[k] = 0 then vgo (xs.take (k + 1)) (xs.drop (k + 1)) else vs (xs.take k) xs[k] := by
  rw [List.drop_eq_getElem_cons h, List.take_succ_eq_append_getElem h]
  rfl
theorem vgo_end {xs : List Lf} : vgo (xs.take xs.length) (xs.drop xs.length) = 0 := by rw [List.drop_length]; cases xs.take xs.length <;> rfl
/-- A map that tells just the names of a list. -/
def MS (D : DataW Unit) (pre : List Lf) : Prop := IsMap D ∧ ∀ l : List UInt8, D.atKey (.string l) (.lit (.bool false)) = .lit (.bool (pre.any fun y => y.1.toList == l))
theorem MS.empty : MS (.map []) [] := ⟨tidy_empty.isMap, fun l => rfl⟩
theorem MS.put {D : DataW Unit} {pre : List Lf} (h : MS D pre) (x : Lf) : MS (D.put (.string x.1.toList) (.lit (.bool true))) (pre ++ [x]) := by
  obtain ⟨h1, h2⟩ := h
  have kl : WideAt.IsKeyLit (.string x.1.toList) := trivial
  refine ⟨h1.put _ _, fun l => ?_⟩
  rw [List.any_append]
  by_cases hl : l = x.1.toList
  · subst hl
    rw [atKey_put_same h1 kl]
    simp
  · rw [atKey_put_other (by intro e; injection e with e; exact hl e), h2]
    have : ([x].any fun y => y.1.toList == l) = false := by simp; exact fun e => hl e.symm
    rw [this, Bool.or_false]
theorem keyS : Keyed Try.prog 9 := string_keyed Try.underlying9
theorem lexName (s : ByteArray) (w : World) (hs : s.size ≤ maxLen) : Calls Try.prog 32 #[.string s] w fun e w' => e = .returned (.bool (nmB s)) ∧ w = w' := by
  have C := Lib.hid fun w => isName s w hs
  go_enter Try.func32, Try.ntmps32
  go_wp2_with (go_at_call 41; refine (C.out _).mono ?_; rintro e w' ⟨rfl, rfl⟩)
  go_ret
  exact ⟨rfl, rfl⟩
theorem vs7 {pre : List Lf} {x : Lf} (h : nmB x.1 = false) : vs pre x = 7 := by unfold vs; rw [if_pos h]
theorem vs8 {pre : List Lf} {x : Lf} (h : nmB x.1 = true) (h2 : dup pre x = true) : vs pre x = 8 := by unfold vs; rw [if_neg (by rw [h]; decide), if_pos h2]
theorem vs1 {pre : List Lf} {x : Lf} (h : nmB x.1 = true) (h2 : dup pre x = false) (h3 : bad x = true) : vs pre x = 1 := by unfold vs; rw [if_neg (by rw [h]; decide), if_neg (by rw [h2]; decide), if_pos h3]
theorem vs0 {pre : List Lf} {x : Lf} (h : nmB x.1 = true) (h2 : dup pre x = false) (h3 : bad x = false) : vs pre x = 0 := by unfold vs; rw [if_neg (by rw [h]; decide), if_neg (by rw [h2]; decide), if_neg (by rw [h3]; decide)]
set_option maxRecDepth 100000 in
set_option maxHeartbeats 8000000 in
theorem pval (p : Option Addr) (xs : List Lf) (c : Nat) (w : World) (hn : xs.length ≤ 60) (RA : Hid (SlL w p xs)) (RS : Hid (∀ i, i < xs.length → (xs.getD i lf0).1.size ≤ maxLen)) :
    Calls Try.prog 19 #[.slice p xs.length c] w fun e w' => e = .returned (.int .i64 (vE xs)) ∧ Below w.heap.size w w' := by
  have hmm := @run_makeMap Try.prog
  go_enter Try.func19, Try.ntmps19
  go_wp2
  go_loopw [9] (fun i wr => ∃ (k : Nat) (D : DataW Unit), i = .int .i64 (k : Int) ∧ k ≤ xs.length ∧ Below w.heap.size w wr ∧ w.heap.size < wr.heap.size ∧ Hid (wr.ownsMap Try.prog 9 (plainElem Try.prog 4) w.heap.size k D) ∧ Hid (MS D (xs.take k)) ∧ Hid (vgo (xs.take k) (xs.drop k) = vE xs)) (fun i _ => xs.length - (intOf i).toNat)
  case atStart => exact ⟨0, .map [], rfl, by omega, (Below.refl _ _).alloc (Nat.le_refl _) _, by simp, Lib.hid (World.ownsMap_made _ _ _ _), Lib.hid MS.empty, Lib.hid rfl⟩
  case round =>
    obtain ⟨k, D, rfl, hk, hB, hsz, hO, hM, hV⟩ := hrel
    by_cases hlt : k < xs.length
    · obtain ⟨b, o, rfl, c0, c1, c2, c3⟩ := RA.out k hlt
      have hb : b < w.heap.size := by have := World.block_lt_of_cell? w _ c0; simpa using this
      have c0 := kpb hB hb c0
      have c1 := kpb hB hb c1
      have c2 := kpb hB hb c2
      have c3 := kpb hB hb c3
      have hss := RS.out k hlt
      have hst := vgo_at hlt
      rw [hV.out] at hst
      rw [getD_lf hlt] at c0 c1 c2 c3 hss
      obtain ⟨x, hx⟩ : ∃ x, xs[k] = x := ⟨_, rfl⟩
      have hTS : xs.take (k + 1) = xs.take k ++ [x] := by rw [List.take_succ_eq_append_getElem hlt, hx]
      rw [hx] at c0 c1 c2 c3 hst hss
      clear hx
      have HST := Lib.hid hst
      have HTS := Lib.hid hTS
      obtain ⟨s, f, t, z⟩ := x
      simp only at c0 c1 c2 c3 hss
      have ii : (0 : Int) ≤ k := by omega
      have i2 : (k : Int) < xs.length := by omega
      have C := Lib.hid fun w => lexName s w hss
      have hkey : keyOf Try.prog 9 (.string s) = some (.string s.toList) := by rw [Go.WideMaps.keyOf_string_mk Try.underlying9 hss, ByteArray.toList_eq]
      have HKY := Lib.hid hkey
      have HZ := Lib.hid Try.zeroValue4
      have hOa : Hid ((wr.alloc (Obj.cells #[.string s, .int .i64 f, .int .i64 t, .int .i64 z] 37)).ownsMap Try.prog 9 (plainElem Try.prog 4) w.heap.size k D) := Lib.hid (hO.out.alloc _)
      have WB : Below w.heap.size w (wr.alloc (Obj.cells #[.string s, .int .i64 f, .int .i64 t, .int .i64 z] 37)) := hB.alloc (by omega) _
      clear hst hTS hkey hss hV hO
      by_cases hnm : nmB s = true
      · rw [hnm] at C
        obtain ⟨t1, ht1⟩ : ∃ t1, dup (xs.take k) (s, f, t, z) = t1 := ⟨_, rfl⟩
        have hat : D.atKey (.string s.toList) (.lit (.bool false)) = .lit (.bool t1) := by rw [hM.out.2, ← ht1]; rfl
        have HAT := Lib.hid hat
        have HT1 := Lib.hid ht1
        have HNM := Lib.hid hnm
        clear hat ht1 hnm
        cases t1
        · by_cases b1 : f < 0
          case pos =>
            have hbd : bad (s, f, t, z) = true := by unfold bad; simp [b1]
            have E := Lib.hid (show vE xs = 1 by rw [HST.out, vs1 HNM.out HT1.out hbd]; rfl)
            have d1 : decide (f < 0) = true := decide_eq_true b1
            clear hbd b1
            go_wp2_with (first
              | (go_at_call 32; refine (C.out _).mono ?_; rintro e w' ⟨rfl, rfl⟩)
              | (at_lookup; refine wpList_lookup_own_bool _ rfl _ _ 52 rfl 9 4 keyS Try.underlying52 Try.underlying4 (HZ.out _) w.heap.size k D rfl hOa.out _ _ rfl HKY.out ?_; intro c9 hc9; have hc8 := litB (HAT.out.symm.trans hc9); clear hc9; subst hc8))
            go_ret
            exact ⟨ret_int E.out.symm, WB⟩
          by_cases b2 : t < f
          case pos =>
            have hbd : bad (s, f, t, z) = true := by unfold bad; simp [b2]
            have E := Lib.hid (show vE xs = 1 by rw [HST.out, vs1 HNM.out HT1.out hbd]; rfl)
            have d1 : decide (f < 0) = false := decide_eq_false b1
            have d2 : decide (t < f) = true := decide_eq_true b2
            clear hbd b1 b2
            go_wp2_with (first
              | (go_at_call 32; refine (C.out _).mono ?_; rintro e w' ⟨rfl, rfl⟩)
              | (at_lookup; refine wpList_lookup_own_bool _ rfl _ _ 52 rfl 9 4 keyS Try.underlying52 Try.underlying4 (HZ.out _) w.heap.size k D rfl hOa.out _ _ rfl HKY.out ?_; intro c9 hc9; have hc8 := litB (HAT.out.symm.trans hc9); clear hc9; subst hc8))
            go_ret
            exact ⟨ret_int E.out.symm, WB⟩
          by_cases b3 : z < 1
          case pos =>
            have hbd : bad (s, f, t, z) = true := by unfold bad; simp [b3]
            have E := Lib.hid (show vE xs = 1 by rw [HST.out, vs1 HNM.out HT1.out hbd]; rfl)
            have d1 : decide (f < 0) = false := decide_eq_false b1
            have d2 : decide (t < f) = false := decide_eq_false b2
            have d3 : decide (z < 1) = true := decide_eq_true b3
            clear hbd b1 b2 b3
            go_wp2_with (first
              | (go_at_call 32; refine (C.out _).mono ?_; rintro e w' ⟨rfl, rfl⟩)
              | (at_lookup; refine wpList_lookup_own_bool _ rfl _ _ 52 rfl 9 4 keyS Try.underlying52 Try.underlying4 (HZ.out _) w.heap.size k D rfl hOa.out _ _ rfl HKY.out ?_; intro c9 hc9; have hc8 := litB (HAT.out.symm.trans hc9); clear hc9; subst hc8))
            go_ret
            exact ⟨ret_int E.out.symm, WB⟩
          by_cases b4 : 4096 < z
          case pos =>
            have hbd : bad (s, f, t, z) = true := by unfold bad; simp [b4]
            have E := Lib.hid (show vE xs = 1 by rw [HST.out, vs1 HNM.out HT1.out hbd]; rfl)
            have d1 : decide (f < 0) = false := decide_eq_false b1
            have d2 : decide (t < f) = false := decide_eq_false b2
            have d3 : decide (z < 1) = false := decide_eq_false b3
            have d4 : decide (4096 < z) = true := decide_eq_true b4
            clear hbd b1 b2 b3 b4
            go_wp2_with (first
              | (go_at_call 32; refine (C.out _).mono ?_; rintro e w' ⟨rfl, rfl⟩)
              | (at_lookup; refine wpList_lookup_own_bool _ rfl _ _ 52 rfl 9 4 keyS Try.underlying52 Try.underlying4 (HZ.out _) w.heap.size k D rfl hOa.out _ _ rfl HKY.out ?_; intro c9 hc9; have hc8 := litB (HAT.out.symm.trans hc9); clear hc9; subst hc8))
            go_ret
            exact ⟨ret_int E.out.symm, WB⟩
          have hbd : bad (s, f, t, z) = false := by unfold bad; simp; omega
          have HV2 : Hid (vgo (xs.take (k + 1)) (xs.drop (k + 1)) = vE xs) := Lib.hid (by rw [HST.out, vs0 HNM.out HT1.out hbd]; rfl)
          have HM2 : Hid (MS (D.put (.string s.toList) (.lit (.bool true))) (xs.take (k + 1))) := Lib.hid (by rw [HTS.out]; exact hM.out.put (s, f, t, z))
          have d1 : decide (f < 0) = false := decide_eq_false b1
          have d2 : decide (t < f) = false := decide_eq_false b2
          have d3 : decide (z < 1) = false := decide_eq_false b3
          have d4 : decide (4096 < z) = false := decide_eq_false b4
          clear hbd b1 b2 b3 b4
          go_wp2_with (first
            | (go_at_call 32; refine (C.out _).mono ?_; rintro e w' ⟨rfl, rfl⟩)
            | (at_lookup; refine wpList_lookup_own_bool _ rfl _ _ 52 rfl 9 4 keyS Try.underlying52 Try.underlying4 (HZ.out _) w.heap.size k D rfl hOa.out _ _ rfl HKY.out ?_; intro c9 hc9; have hc8 := litB (HAT.out.symm.trans hc9); clear hc9; subst hc8)
            | (at_mapUpdate; refine wpList_mapUpdate_own _ rfl _ _ _ 52 rfl 9 4 keyS Try.underlying52 _ w.heap.size k D rfl hOa.out (by unfold maxLen; omega) _ _ _ rfl rfl HKY.out _ [] (plainElem_bool Try.underlying4 _) ?_; intro w1 hown1 hgrow1))
          have HO1 := Lib.hid hown1
          have hs1 := hgrow1.size
          have WB1 := WB.grown hgrow1 (by simp; omega) (fun j hj => by cases hj; exact Nat.le_refl _)
          simp only [World.size_alloc] at hs1
          clear hown1 hgrow1
          go_wp2
          go_roundw
          case rel => exact ⟨k + 1, _, by go_num, by omega, WB1, by omega, HO1, HM2, HV2⟩
          case measure => simp [intOf]; omega
        · have E := Lib.hid (show vE xs = 8 by rw [HST.out, vs8 HNM.out HT1.out]; rfl)
          go_wp2_with (first
              | (go_at_call 32; refine (C.out _).mono ?_; rintro e w' ⟨rfl, rfl⟩)
              | (at_lookup; refine wpList_lookup_own_bool _ rfl _ _ 52 rfl 9 4 keyS Try.underlying52 Try.underlying4 (HZ.out _) w.heap.size k D rfl hOa.out _ _ rfl HKY.out ?_; intro c9 hc9; have hc8 := litB (HAT.out.symm.trans hc9); clear hc9; subst hc8))
          go_ret
          exact ⟨ret_int E.out.symm, WB⟩
      · have hnm : nmB s = false := by simpa using hnm
        rw [hnm] at C
        have E := Lib.hid (show vE xs = 7 by rw [HST.out, vs7 hnm]; rfl)
        clear hnm
        go_wp2_with (go_at_call 32; refine (C.out _).mono ?_; rintro e w' ⟨rfl, rfl⟩)
        go_ret
        exact ⟨ret_int E.out.symm, WB⟩
    · obtain rfl : k = xs.length := by omega
      have E := Lib.hid (hV.out.symm.trans vgo_end)
      clear hV
      go_wp2
      go_ret
      exact ⟨ret_int E.out.symm, hB⟩
end Go.Proofs.Ytghnigmmkenddaa.Lv
