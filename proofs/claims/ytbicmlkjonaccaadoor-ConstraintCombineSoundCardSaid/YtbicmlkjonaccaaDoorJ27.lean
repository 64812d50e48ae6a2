/- Linear forms: the index of a binding. -/
import Derived.Test.YtbicmlkjonaccaaDoorY24

namespace Go.Proofs.YtbicmlkjonaccaaDoor.Ln
open Go.ChangeShapes Go.WideShapes Go.ChangeAt Go.RowKit
set_option linter.unusedVariables false
set_option linter.unusedSimpArgs false
theorem clo1 (s t : ByteArray) (a : Int) (gm : Nat) (w : World) (hm : w.cell? ⟨gm, 0, none⟩ = some (.string s)) (v : Bool) (hv : (t.toList == s.toList) = v) :
    Calls Tryd.prog 82 #[.agg #[.string t, .int .i64 a], .pointer (some ⟨gm, 0, none⟩)] w fun e w' => e = .returned (.bool v) ∧ Below w.heap.size w w' := by
  have B0 : Below w.heap.size w (w.alloc (Obj.cells #[Value.string t, Value.int .i64 a] 106)) := (Below.refl _ _).alloc (Nat.le_refl _) _
  have f0 := kp B0 (lt_of_cell hm) hm
  go_enter Tryd.func82, Tryd.ntmps82
  go_wp2
  go_ret
  exact ⟨rfl, B0⟩
/-- The index of the first binding of a name, or -1. -/
def IXW (es : List Mo) (s : ByteArray) (w : World) (e : Ending) (w' : World) : Prop :=
  Below w.heap.size w w' ∧ ((s ∉ es.map (·.1) ∧ e = .returned (.int .i64 (-1))) ∨ ∃ j : Nat, j < es.length ∧ e = .returned (.int .i64 (j : Int)) ∧ (es.getD j mo0).1 = s ∧ (es.getD j mo0).2 = co es s)
theorem not_mem_of {es : List Mo} {s : ByteArray} {j : Nat} (hj : j = es.length) (h : ∀ i, i < j → (es.getD i mo0).1 ≠ s) : s ∉ es.map (·.1) := by
  intro hm
  obtain ⟨m, hm, e⟩ := List.mem_map.1 hm
  obtain ⟨i, hi, rfl⟩ := List.getElem_of_mem hm
  refine h i (by omega) ?_
  rw [show es.getD i mo0 = es[i] by unfold List.getD; rw [List.getElem?_eq_getElem hi]; rfl]
  exact e
theorem co_first {s : ByteArray} : ∀ {es : List Mo} {j : Nat}, j < es.length → (∀ i, i < j → (es.getD i mo0).1 ≠ s) → (es.getD j mo0).1 = s → (es.getD j mo0).2 = co es s
  | [], j, hj, _, _ => by simp at hj
  | x :: r, 0, _, _, he => by
    have he' : x.1 = s := he
    rw [co_cons, if_pos he']
    rfl
  | x :: r, j + 1, hj, h, he => by
    have h0 : x.1 ≠ s := h 0 (by omega)
    rw [co_cons, if_neg h0]
    exact co_first (es := r) (by simpa using hj) (fun i hi => h (i + 1) (by omega)) he
set_option maxRecDepth 100000 in
set_option maxHeartbeats 8000000 in
theorem idx1 (q : Option Addr) (es : List Mo) (d : Nat) (s : ByteArray) (gm : Nat) (w : World) (hn : es.length ≤ maxLen) (RA : Hid (SlM w q es)) (hm : w.cell? ⟨gm, 0, none⟩ = some (.string s)) :
    Calls Tryd.prog 81 #[.slice q es.length d, .func (.func 82) #[] #[.pointer (some ⟨gm, 0, none⟩)]] w (IXW es s w) := by
  have C := Lib.hid fun (t : ByteArray) (a : Int) (u : World) h v hv => clo1 s t a gm u h v hv
  unfold maxLen at hn
  go_enter Tryd.func81, Tryd.ntmps81
  go_wp2
  go_loopw [8] (fun i wr => ∃ j : Nat, i = .int .i64 (j : Int) ∧ j ≤ es.length ∧ Below w.heap.size w wr ∧ Hid (∀ i, i < j → (es.getD i mo0).1 ≠ s)) (fun i _ => es.length - (intOf i).toNat)
  case atStart => exact ⟨0, rfl, by omega, Below.refl _ _, Lib.hid fun i hi => absurd hi (by omega)⟩
  case round =>
    obtain ⟨j, rfl, hj, hB, HN⟩ := hrel
    have j0 : (0 : Int) ≤ j := by omega
    by_cases hlt : j < es.length
    · obtain ⟨b, o, rfl, c0, c1⟩ := SlM.keep hB RA.out j hlt
      have HC := Lib.hid fun he => co_first (s := s) hlt HN.out he
      obtain ⟨⟨t, a⟩, hx⟩ : ∃ x, es.getD j mo0 = x := ⟨_, rfl⟩
      have HX := Lib.hid hx
      rw [hx] at c0 c1
      simp only at c0 c1
      clear hx
      have j1 : (j : Int) < es.length := by omega
      have hm2 := kp hB (lt_of_cell hm) hm
      obtain ⟨v, hv⟩ : ∃ v, (t.toList == s.toList) = v := ⟨_, rfl⟩
      have C2 := Lib.hid (C.out t a wr hm2 v hv)
      have HV := Lib.hid hv
      clear hv C
      cases v
      · go_wp2_with fail
        refine C2.out.mono ?_
        rintro e w2 ⟨rfl, hb⟩
        have hB2 := hB.trans (hb.mono hB.size)
        have HN2 : Hid (∀ i, i < j + 1 → (es.getD i mo0).1 ≠ s) := Lib.hid fun i hi => by
          by_cases hij : i = j
          · subst hij
            rw [HX.out]
            intro e
            have := HV.out
            rw [same_iff] at this
            exact absurd e (of_decide_eq_false this)
          · exact HN.out i (by omega)
        go_wp2
        go_roundw
        case rel => exact ⟨j + 1, by go_num, by omega, hB2, HN2⟩
        case measure => simp [intOf]; omega
      · go_wp2_with fail
        refine C2.out.mono ?_
        rintro e w2 ⟨rfl, hb⟩
        have hB2 := hB.trans (hb.mono hB.size)
        have hts : (es.getD j mo0).1 = s := by
          rw [HX.out]
          have := HV.out
          rw [same_iff] at this
          exact of_decide_eq_true this
        have HE := Lib.hid (show s ∉ es.map (·.1) ∧ (Ending.returned (.int .i64 (j : Int))) = .returned (.int .i64 (-1)) ∨ ∃ j' : Nat, j' < es.length ∧ (Ending.returned (.int .i64 (j : Int))) = .returned (.int .i64 (j' : Int)) ∧ (es.getD j' mo0).1 = s ∧ (es.getD j' mo0).2 = co es s from .inr ⟨j, hlt, rfl, hts, HC.out hts⟩)
        clear hts
        go_wp2
        go_ret
        exact ⟨hB2, HE.out⟩
    · have j1 : ¬ (j : Int) < es.length := by omega
      have HE := Lib.hid (show s ∉ es.map (·.1) from not_mem_of (by omega) HN.out)
      go_wp2
      go_ret
      exact ⟨hB, .inl ⟨HE.out, rfl⟩⟩
end Go.Proofs.YtbicmlkjonaccaaDoor.Ln


namespace Go.Proofs.YtbicmlkjonaccaaDoor.Ln
open Go.ChangeShapes Go.WideShapes Go.ChangeAt Go.RowKit
set_option linter.unusedVariables false
set_option linter.unusedSimpArgs false
def evS (es : List Mo) : List Mo → Int
  | [] => 0
  | m :: r => m.2 * co es m.1 + evS es r
theorem evS_app (es l r : List Mo) : evS es (l ++ r) = evS es l + evS es r := by
  induction l with
  | nil => simp [evS]
  | cons m l ih => rw [List.cons_append, evS, evS, ih]; omega
/-- The value of a form, or the error. -/
def EV (k : Int) (xs es : List Mo) (x e : Int) : Prop :=
  (okL xs = false ∧ x = 0 ∧ e = 1) ∨ (okL xs = true ∧ (∃ m ∈ xs, m.1 ∉ es.map (·.1)) ∧ x = 0 ∧ e = 9) ∨
  (okL xs = true ∧ (∀ m ∈ xs, m.1 ∈ es.map (·.1)) ∧ fit64 (k + evS es xs) = true ∧ x = k + evS es xs ∧ e = 0) ∨ (okL xs = true ∧ (∀ m ∈ xs, m.1 ∈ es.map (·.1)) ∧ fit64 (k + evS es xs) = false ∧ x = 0 ∧ e = 3)
theorem EV_one {k : Int} {xs es : List Mo} {x e y f : Int} (h : EV k xs es x e) (h2 : EV k xs es y f) : x = y ∧ e = f := by
  rcases h with ⟨a, rfl, rfl⟩ | ⟨a, ⟨m, hm, b⟩, rfl, rfl⟩ | ⟨a, b, c, rfl, rfl⟩ | ⟨a, b, c, rfl, rfl⟩
  all_goals
    rcases h2 with ⟨a', rfl, rfl⟩ | ⟨a', ⟨m', hm', b'⟩, rfl, rfl⟩ | ⟨a', b', c', rfl, rfl⟩ | ⟨a', b', c', rfl, rfl⟩
    all_goals first | exact ⟨rfl, rfl⟩ | (rw [a] at a'; cases a'; done) | exact absurd (b' m hm) b | exact absurd (b m' hm') b' | (rw [c] at c'; cases c'; done)
def EW (k : Int) (xs es : List Mo) (w : World) (e : Ending) (w' : World) : Prop := ∃ x er, e = .returned (.tuple #[.int .i64 x, .int .i64 er]) ∧ EV k xs es x er ∧ Below w.heap.size w w'
theorem below3 {B g : Nat} {w u : World} {x y z : Value} (h : Below B w u) (hg : B ≤ g) : Below B w (((u.setCell ⟨g, 2, none⟩ x).setCell ⟨g, 1, none⟩ y).setCell ⟨g, 0, none⟩ z) := ((h.setCell (p := ⟨g, 2, none⟩) hg x).setCell (p := ⟨g, 1, none⟩) hg y).setCell (p := ⟨g, 0, none⟩) hg z
theorem l0_fit {V : Int} (h : fit64 V = true) : wrap64 (l0 V) = V := by
  have := fit_yes.1 h
  unfold wrap64 l0
  omega
set_option maxRecDepth 100000 in
set_option maxHeartbeats 16000000 in
theorem eval1 (k : Int) (p : Option Addr) (xs : List Mo) (c : Nat) (q : Option Addr) (es : List Mo) (d : Nat) (w : World) (hn : xs.length ≤ 1000) (hm : es.length ≤ maxLen) (RA : Hid (SlM w p xs)) (RB : Hid (SlM w q es))
    (RS : Hid (∀ i, i < xs.length → (xs.getD i mo0).1.size ≤ maxLen ∧ -9223372036854775808 ≤ (xs.getD i mo0).2 ∧ (xs.getD i mo0).2 ≤ 9223372036854775807)) (RT : Hid (∀ i, i < es.length → (es.getD i mo0).1.size ≤ maxLen ∧ -9223372036854775808 ≤ (es.getD i mo0).2 ∧ (es.getD i mo0).2 ≤ 9223372036854775807))
    (k1 : -9223372036854775808 ≤ k) (k2 : k ≤ 9223372036854775807) :
    Calls Tryd.prog 41 #[Lv k p xs.length c, .slice q es.length d] w (EW k xs es w) := by
  have C1 := Lib.hid fun (u : World) (h : Hid (SlM u p xs)) => val1 k p xs c u (by unfold maxLen; omega) h (Lib.hid fun i hi => (RS.out i hi).1)
  have CX := Lib.hid fun (s : ByteArray) (gm : Nat) (u : World) (h : Hid (SlM u q es)) hc => idx1 q es d s gm u hm h hc
  have CA := Lib.hid waddG
  have CF := Lib.hid wfitG
  have B0 : Below w.heap.size w (w.alloc (Obj.cells #[Value.int .i64 k, Value.slice p xs.length c] 24)) := (Below.refl _ _).alloc (Nat.le_refl _) _
  have F0 : Cl [(w.heap.size, 0, .int .i64 k), (w.heap.size, 1, .slice p xs.length c)] (w.alloc (Obj.cells #[Value.int .i64 k, Value.slice p xs.length c] 24)) := Cl.cons (by go_cell) (by first | go_cell | simp) (Cl.cons (by go_cell) (by first | go_cell | simp) (Cl.nil _))
  have S0 : w.heap.size < ((w.alloc (Obj.cells #[Value.int .i64 k, Value.slice p xs.length c] 24))).heap.size := by simp
  unfold maxLen at hm
  unfold Lv at *
  obtain ⟨ok, hok⟩ : ∃ ok, okL xs = ok := ⟨_, rfl⟩
  have HK := Lib.hid hok
  cases ok
  · have hv : vL xs = 1 := by unfold vL; rw [hok]; rfl
    rw [hv] at C1
    clear hok hv
    go_enter Tryd.func41, Tryd.ntmps41
    go_wp2_with fail
    generalize (w.alloc (Obj.cells #[Value.int .i64 k, Value.slice p xs.length c] 24)) = z at *
    refine (C1.out _ (Lib.hid (SlM.keep B0 RA.out))).mono ?_
    rintro e w1 ⟨rfl, hb⟩
    have K1 := B0.trans (hb.mono B0.size)
    clear F0 hb B0 S0
    go_wp2
    go_ret2
    exact ⟨0, 1, rfl, .inl ⟨HK.out, rfl, rfl⟩, K1⟩
  · have hv : vL xs = 0 := by unfold vL; rw [hok]; rfl
    rw [hv] at C1
    clear hok hv
    go_enter Tryd.func41, Tryd.ntmps41
    go_wp2_with fail
    generalize (w.alloc (Obj.cells #[Value.int .i64 k, Value.slice p xs.length c] 24)) = z at *
    refine (C1.out _ (Lib.hid (SlM.keep B0 RA.out))).mono ?_
    rintro e w1 ⟨rfl, hb⟩
    replace F0 := F0.below hb
    have K1 := B0.trans (hb.mono B0.size)
    have S1 := Nat.lt_of_lt_of_le S0 hb.size
    clear hb B0 S0 C1
    have BA := (Below.refl w1.heap.size w1).alloc (Nat.le_refl _) (Obj.cells #[Value.int .u64 0, Value.int .u64 0, Value.int .u64 0] 102)
    have FA := F0.below BA
    have f0 := FA.head
    have f1 := FA.tail.head
    go_wp2_with fail
    have hA := CA.out w1.heap.size 0 k 1 (w1.alloc (Obj.cells #[Value.int .u64 0, Value.int .u64 0, Value.int .u64 0] 102)) k1 k2 (by decide) (by decide) (by rw [show l2 0 = 0 from rfl]; go_cell) (by rw [show l1 0 = 0 from rfl]; go_cell) (by rw [show l0 0 = 0 from rfl]; go_cell) (by first | go_cell | simp) (by first | go_cell | simp) (by first | go_cell | simp)
    rw [Int.mul_one, Int.zero_add] at hA
    refine hA.mono ?_
    rintro e w2 ⟨rfl, h2⟩
    have F2 : Hid (Cl [(w1.heap.size, 0, .int .u64 (l2 (k + evS es (xs.take 0)))), (w1.heap.size, 1, .int .u64 (l1 (k + evS es (xs.take 0)))), (w1.heap.size, 2, .int .u64 (l0 (k + evS es (xs.take 0)))), (w.heap.size, 0, .int .i64 k), (w.heap.size, 1, .slice p xs.length c)] w2) := Lib.hid (by
      rw [show k + evS es (xs.take 0) = k by simp [evS], h2]
      exact Cl.cons (by go_cell) (by first | go_cell | simp) (Cl.cons (by go_cell) (by first | go_cell | simp) (Cl.cons (by go_cell) (by first | go_cell | simp) (Cl.far (Cl.far (Cl.far FA (by simp only [List.forall_mem_cons]; simp; omega)) (by simp only [List.forall_mem_cons]; simp; omega)) (by simp only [List.forall_mem_cons]; simp; omega)))))
    have K2 : Below w.heap.size w w2 := by rw [h2]; exact below3 (K1.trans (BA.mono K1.size)) K1.size
    have q1 : w2.cell? ⟨w.heap.size, 1, none⟩ = some (.slice p xs.length c) := F2.out.tail.tail.tail.tail.head
    have hgs : w.heap.size ≤ w1.heap.size := K1.size
    have S2 : w1.heap.size < w2.heap.size := lt_of_cell F2.out.head
    clear h2 hA FA BA F0 f0 f1 K1
    generalize w1.heap.size = g6 at *
    go_wp2_with fail
    go_loopw [19] (fun i wr => ∃ j : Nat, i = .int .i64 (j : Int) ∧ j ≤ xs.length ∧ Below w.heap.size w wr ∧ Hid (Cl [(g6, 0, .int .u64 (l2 (k + evS es (xs.take j)))), (g6, 1, .int .u64 (l1 (k + evS es (xs.take j)))), (g6, 2, .int .u64 (l0 (k + evS es (xs.take j))))] wr) ∧ Hid (∀ m ∈ xs.take j, m.1 ∈ es.map (·.1)) ∧ Hid (-85070591730234615865843651857942052864 * ((j : Int) + 1) ≤ k + evS es (xs.take j) ∧ k + evS es (xs.take j) ≤ 85070591730234615865843651857942052864 * ((j : Int) + 1))) (fun i _ => xs.length - (intOf i).toNat)
    case atStart => exact ⟨0, rfl, by omega, K2, Lib.hid (F2.out.sub (by intro x hx; simp only [List.mem_cons, List.not_mem_nil, or_false] at hx ⊢; rcases hx with h | h | h <;> simp [h])), Lib.hid (by simp), Lib.hid (by simp [evS]; omega)⟩
    case round =>
      obtain ⟨j, rfl, hj, hB, hF, hI, hV⟩ := hrel
      have j0 : (0 : Int) ≤ j := by omega
      clear q1 K2 F2 S2
      by_cases hlt : j < xs.length
      · obtain ⟨b, o, rfl, c0, c1⟩ := SlM.keep hB RA.out j hlt
        have htk := Lib.hid (take_step hlt)
        have hmm := Lib.hid (getD_mem hlt)
        have hrs := RS.out j hlt
        obtain ⟨⟨s, a⟩, hx⟩ : ∃ x, xs.getD j mo0 = x := ⟨_, rfl⟩
        replace htk := Lib.hid (by have h := htk.out; rw [hx] at h; exact h)
        replace hmm := Lib.hid (by have h := hmm.out; rw [hx] at h; exact h)
        rw [hx] at c0 c1 hrs
        simp only at c0 c1 hrs
        clear hx
        obtain ⟨_, a1, a2⟩ := hrs
        have j1 : (j : Int) < xs.length := by omega
        have FM := Cl.cons (b := wr.heap.size) (o := 0) (v := .string s) (by go_cell) (by first | go_cell | simp) (Cl.cons (b := wr.heap.size) (o := 1) (v := .int .i64 a) (by go_cell) (by first | go_cell | simp) (hF.out.below ((Below.refl _ _).alloc (Nat.le_refl _) (Obj.cells #[Value.string s, Value.int .i64 a] 59))))
        have KM := hB.alloc hB.size (Obj.cells #[Value.string s, Value.int .i64 a] 59)
        have hgm : g6 < wr.heap.size := lt_of_cell hF.out.head
        go_wp2_with fail
        clear c0 c1 hB hF
        generalize wr.alloc (Obj.cells #[Value.string s, Value.int .i64 a] 59) = wm at *
        generalize wr.heap.size = gm at *
        refine (CX.out s gm wm (Lib.hid (SlM.keep KM RB.out)) FM.head).mono ?_
        rintro e w3 ⟨hb, ⟨hno, rfl⟩ | ⟨at', hat, rfl, hnm, hval⟩⟩
        · have K3 := KM.trans (hb.mono KM.size)
          have HE := Lib.hid (show EV k xs es 0 9 from .inr (.inl ⟨HK.out, ⟨(s, a), hmm.out, hno⟩, rfl, rfl⟩))
          clear hno hb FM KM
          go_wp2
          go_ret2
          exact ⟨0, 9, rfl, HE.out, K3⟩
        · have K3 := KM.trans (hb.mono KM.size)
          have F3 := FM.below hb
          have hrt := RT.out at' hat
          obtain ⟨be, oe, rfl, d0, d1⟩ := SlM.keep K3 RB.out at' hat
          have HIN := Lib.hid (show s ∈ es.map (·.1) from hnm ▸ List.mem_map_of_mem (getD_mem hat))
          obtain ⟨v, hv⟩ : ∃ v, (es.getD at' mo0).2 = v := ⟨_, rfl⟩
          rw [hv] at hval d1 hrt
          have HC := Lib.hid hval
          clear hval hnm hv d0 hb FM KM
          have a0 : (0 : Int) ≤ at' := by omega
          have a3 : (at' : Int) < es.length := by omega
          have a4 : ¬ (at' : Int) < 0 := by omega
          obtain ⟨W, hW⟩ : ∃ W, k + evS es (xs.take j) = W := ⟨_, rfl⟩
          have hVb := hV.out
          rw [hW] at F3 hVb
          have HW := Lib.hid hW
          have hpb := prod_bd a1 a2 hrt.2.1 hrt.2.2
          have HSUM := Lib.hid (show W + a * v = k + evS es (xs.take (j + 1)) by rw [htk.out, evS_app, ← HW.out]; simp only [evS]; rw [← HC.out]; omega)
          have HV2 := Lib.hid (show -85070591730234615865843651857942052864 * (((j + 1 : Nat) : Int) + 1) ≤ k + evS es (xs.take (j + 1)) ∧ k + evS es (xs.take (j + 1)) ≤ 85070591730234615865843651857942052864 * (((j + 1 : Nat) : Int) + 1) by rw [← HSUM.out]; generalize a * v = pr at *; omega)
          have HI2 : Hid (∀ m ∈ xs.take (j + 1), m.1 ∈ es.map (·.1)) := Lib.hid (by
            rw [htk.out]
            intro m hm'
            rcases List.mem_append.1 hm' with h | h
            · exact hI.out m h
            · rw [List.mem_singleton] at h; rw [h]; exact HIN.out)
          clear hVb hV hI hW hpb
          have e0 := F3.head
          have e1 := F3.tail.head
          have e2 := F3.tail.tail.head
          have ze2 := F3.tail.tail.headF
          have e3 := F3.tail.tail.tail.head
          have ze3 := F3.tail.tail.tail.headF
          have e4 := F3.tail.tail.tail.tail.head
          have ze4 := F3.tail.tail.tail.tail.headF
          go_wp2_with fail
          have hz9 := (⟨e1, d1⟩ : w3.drew.cell? ⟨gm, 1, none⟩ = some (.int .i64 a) ∧ w3.drew.cell? ⟨be, oe + at' * 2 + 1, none⟩ = some (.int .i64 v))
          refine Rk.begin (S := fun wS => wS.cell? ⟨gm, 1, none⟩ = some (.int .i64 a) ∧ wS.cell? ⟨be, oe + at' * 2 + 1, none⟩ = some (.int .i64 v)) 7 (by kernel_rfl) hz9 (fun hHeld => ?_)
          refine Rk.takeP (i := 0) (v := ?_) rfl (by kernel_rfl) (by kernel_rfl) (by kernel_rfl) (by kernel_rfl) (fun _ _ _ h => h) (Or.inl ⟨by kernel_rfl, ?_⟩) (by assumption) ?_
          rotate_left
          · ((intro w hSw; go_simp) <;> with_reducible rfl)
          try simp only [Act.put, List.setIfInBounds_toArray, List.set_cons_zero, List.set_cons_succ]
          refine Rk.take [7] (i := 1) (v := ?_) rfl (by kernel_rfl) (by kernel_rfl) (by kernel_rfl) (by kernel_rfl) (by kernel_rfl) (fun _ _ _ h => h) (Or.inl ⟨by kernel_rfl, ?_⟩) (by assumption) ?_
          rotate_left
          · ((intro w hSw; (try dsimp only at hSw); go_simp) <;> with_reducible rfl)
          try simp only [Act.put, List.setIfInBounds_toArray, List.set_cons_zero, List.set_cons_succ]
          refine Rk.takeP (i := 2) (v := ?_) rfl (by kernel_rfl) (by kernel_rfl) (by kernel_rfl) (by kernel_rfl) (fun _ _ _ h => h) (Or.inl ⟨by kernel_rfl, ?_⟩) (by assumption) ?_
          rotate_left
          · ((intro w hSw; go_simp) <;> with_reducible rfl)
          try simp only [Act.put, List.setIfInBounds_toArray, List.set_cons_zero, List.set_cons_succ]
          refine Rk.takeP (i := 3) (v := ?_) rfl (by kernel_rfl) (by kernel_rfl) (by kernel_rfl) (by kernel_rfl) (fun _ _ _ h => h) (Or.inl ⟨by kernel_rfl, ?_⟩) (by assumption) ?_
          rotate_left
          · ((intro w hSw; go_simp) <;> with_reducible rfl)
          try simp only [Act.put, List.setIfInBounds_toArray, List.set_cons_zero, List.set_cons_succ]
          refine Rk.takeP (i := 4) (v := ?_) rfl (by kernel_rfl) (by kernel_rfl) (by kernel_rfl) (by kernel_rfl) (fun _ _ _ h => h) (Or.inl ⟨by kernel_rfl, ?_⟩) (by assumption) ?_
          rotate_left
          · ((intro w hSw; go_simp) <;> with_reducible rfl)
          try simp only [Act.put, List.setIfInBounds_toArray, List.set_cons_zero, List.set_cons_succ]
          refine Rk.takeP (i := 5) (v := ?_) rfl (by kernel_rfl) (by kernel_rfl) (by kernel_rfl) (by kernel_rfl) (fun _ _ _ h => h) (Or.inl ⟨by kernel_rfl, ?_⟩) (by assumption) ?_
          rotate_left
          · ((intro w hSw; go_simp) <;> with_reducible rfl)
          try simp only [Act.put, List.setIfInBounds_toArray, List.set_cons_zero, List.set_cons_succ]
          refine Rk.take [7] (i := 6) (v := ?_) rfl (by kernel_rfl) (by kernel_rfl) (by kernel_rfl) (by kernel_rfl) (by kernel_rfl) (fun _ _ _ h => h) (Or.inl ⟨by kernel_rfl, ?_⟩) (by assumption) ?_
          rotate_left
          · ((intro w hSw; (try dsimp only at hSw); go_simp) <;> with_reducible rfl)
          try simp only [Act.put, List.setIfInBounds_toArray, List.set_cons_zero, List.set_cons_succ]
          refine Rk.tail [7] [_] (by kernel_rfl) (by kernel_rfl) rfl (by decide) ?_
          have F4 := F3.drew
          go_wp2_with fail
          refine (CA.out g6 W a v w3.drew a1 a2 hrt.2.1 hrt.2.2 e2 e3 e4 ze2 ze3 ze4).mono ?_
          rintro e w4 ⟨rfl, h4⟩
          have hF4 : Hid (Cl [(g6, 0, .int .u64 (l2 (k + evS es (xs.take (j + 1))))), (g6, 1, .int .u64 (l1 (k + evS es (xs.take (j + 1))))), (g6, 2, .int .u64 (l0 (k + evS es (xs.take (j + 1)))))] w4) := Lib.hid (by
            rw [← HSUM.out, h4]
            have e2' : w3.drew.cell? ⟨g6, 0, none⟩ = some (.int .u64 (l2 W)) := e2
            have e3' : w3.drew.cell? ⟨g6, 1, none⟩ = some (.int .u64 (l1 W)) := e3
            have e4' : w3.drew.cell? ⟨g6, 2, none⟩ = some (.int .u64 (l0 W)) := e4
            exact Cl.cons (by go_cell) (by first | go_cell | simp [World.frozen?_setCell, ze2]) (Cl.cons (by go_cell) (by first | go_cell | simp [World.frozen?_setCell, ze3]) (Cl.cons (by go_cell) (by first | go_cell | simp [World.frozen?_setCell, ze4]) (Cl.nil _))))
          have K4 : Below w.heap.size w w4 := by rw [h4]; exact below3 K3.drew hgs
          clear h4 F3 F4 hz9 e0 e1 e2 e3 e4 ze2 ze3 ze4 d1 K3
          go_wp2
          go_roundw
          case rel => exact ⟨j + 1, by go_num, by omega, K4, hF4, HI2, HV2⟩
          case measure => simp [intOf]; omega
      · have j1 : ¬ (j : Int) < xs.length := by omega
        obtain rfl : j = xs.length := by omega
        have hF4 := hF.out
        have hV4 := hV.out
        have hI4 := hI.out
        rw [List.take_length] at hF4 hV4 hI4
        have HI4 := Lib.hid hI4
        have HX := Lib.hid fun x e => (show EV k xs es x e → EV k xs es x e from id)
        obtain ⟨V, hVV⟩ : ∃ V, k + evS es xs = V := ⟨_, rfl⟩
        rw [hVV] at hF4 hV4
        have HVV := Lib.hid hVV
        clear hF hV hI hI4 hVV
        have CF2 := Lib.hid fun u h0 h1 h2 => CF.out g6 V u (by omega) (by omega) h0 h1 h2
        obtain ⟨f, hf⟩ : ∃ f, fit64 V = f := ⟨_, rfl⟩
        rw [hf] at CF2
        have HF := Lib.hid hf
        clear hf hV4
        have e0 := hF4.head
        have e1 := hF4.tail.head
        have e2 := hF4.tail.tail.head
        cases f
        · have HE := Lib.hid (show EV k xs es 0 3 from .inr (.inr (.inr ⟨HK.out, HI4.out, by rw [HVV.out]; exact HF.out, rfl, rfl⟩)))
          go_wp2_with fail
          refine (CF2.out _ e0 e1 e2).mono ?_
          rintro e w4 ⟨rfl, n, rfl⟩
          go_wp2
          go_ret2
          exact ⟨0, 3, rfl, HE.out, below_drewN hB n⟩
        · have HE := Lib.hid (show EV k xs es V 0 from .inr (.inr (.inl ⟨HK.out, HI4.out, by rw [HVV.out]; exact HF.out, HVV.out.symm, rfl⟩)))
          have HL := Lib.hid (l0_fit HF.out)
          go_wp2_with fail
          refine (CF2.out _ e0 e1 e2).mono ?_
          rintro e w4 ⟨rfl, n, rfl⟩
          go_wp2
          go_ret2
          exact ⟨V, 0, by show Ending.returned (.tuple #[.int .i64 (wrap64 (l0 V)), .int .i64 0]) = _; rw [HL.out], HE.out, below_drewN hB n⟩
end Go.Proofs.YtbicmlkjonaccaaDoor.Ln
