/- Linear forms: a name taken out. -/
import Derived.Test.YthdeaneffnlffaaY51
import Derived.Test.YthdeaneffnlffaaY29
import Derived.BigFrame
namespace Go.Proofs.Ythdeaneffnlffaa.Ln
open Go.ChangeShapes Go.WideShapes Go.ChangeAt Go.RowKit
set_option linter.unusedVariables false
set_option linter.unusedSimpArgs false
theorem run_clear2 {P : Program} (w : World) (t e ty : TypeId) (z : Value) (ht : P.underlying t = some (.slice e)) (hv : ∀ w, (zeroValue e).run P w = .ok z w) (cs : Array Value) (hz : z.cells = cs) (h1 : ∀ v ∈ cs, v.oneCell' = true) (b o n c : Nat) (hn : 0 < n)
    (hc : ∀ j, j < n * cs.size → (w.cell? ⟨b, o + j, none⟩).isSome = true) (hf : ∀ j, j < n * cs.size → w.frozen? ⟨b, o + j, none⟩ = false) :
    (Builtin.clear_ #[t] ty #[.slice (some ⟨b, o, none⟩) n c]).run P w = .ok (.tuple #[]) (w.setCells b o (Builtin.zeroCells cs n).toList) := by
  have hst := run_storeCells_cells (P := P) b o (Builtin.zeroCells cs n).toList 0 w (by intro j hj; rw [Array.length_toList, size_zeroCells] at hj; simpa using hc j hj) (by intro j hj; rw [Array.length_toList, size_zeroCells] at hj; simpa using hf j hj) (by
    intro v hv'
    apply h1
    unfold Builtin.zeroCells at hv'
    rw [Array.mem_toList_iff, Array.mem_map] at hv'
    obtain ⟨i, hi, rfl⟩ := hv'
    rw [Array.mem_range] at hi
    have h0 : 0 < cs.size := Nat.pos_of_ne_zero fun h => by rw [h] at hi; omega
    rw [getElem!_pos cs (i % cs.size) (Nat.mod_lt _ h0)]
    exact Array.getElem_mem _)
  simp only [Nat.add_zero] at hst
  obtain ⟨m, rfl⟩ : ∃ m, n = m + 1 := ⟨n - 1, by omega⟩
  simp [Builtin.clear_, run_underlying ht, hv, hz, hst]
theorem own_setCells {base : Nat} {E : TypeId} {sz n c g : Nat} : ∀ (vs : List Value) (o : Nat) (u : World) (l : List Value), u.ownsRow base E sz (.slice (some ⟨g, 0, none⟩) n c) n l → ∃ l', (u.setCells g o vs).ownsRow base E sz (.slice (some ⟨g, 0, none⟩) n c) n l' ∧ l'.take o = l.take o
  | [], o, u, l, h => ⟨l, h, rfl⟩
  | v :: r, o, u, l, h => by
    obtain ⟨l', h1, h2⟩ := own_setCells r (o + 1) _ _ (h.stored o v).1
    refine ⟨l', h1, ?_⟩
    have := congrArg (List.take o) h2
    rw [List.take_take, List.take_take, Nat.min_eq_left (by omega)] at this
    rw [this]
    apply List.ext_getElem?
    intro i
    by_cases hi : i < o
    · rw [List.getElem?_take_of_lt hi, List.getElem?_take_of_lt hi, List.getElem?_set_ne (by omega)]
    · rw [List.getElem?_eq_none (by simp; omega), List.getElem?_eq_none (by simp; omega)]
theorem grown_setCells {w : World} {g : Nat} : ∀ (vs : List Value) (o : Nat) (u : World), w.grownBy u (some g) → w.grownBy (u.setCells g o vs) (some g)
  | [], o, u, h => h
  | v :: r, o, u, h => grown_setCells r (o + 1) _ (grown_trans h (grown_set (a := ⟨g, o, none⟩)))
theorem own_prefix {u : World} {base : Nat} {E : TypeId} {sz n c g : Nat} {l : List Value} (h : u.ownsRow base E sz (.slice (some ⟨g, 0, none⟩) n c) n l) {i : Nat} (hi : i ≤ n) : u.ownsRow base E sz (.slice (some ⟨g, 0, none⟩) i c) i (l.take (i * sz)) := by
  have hle : i * sz ≤ n * sz := Nat.mul_le_mul_right _ hi
  refine ⟨by rw [List.length_take, h.1]; omega, ?_⟩
  rcases h.2 with ⟨e, _⟩ | ⟨g', cap, cur, e, hb, hh, hc, hm, hs, ht⟩
  · cases e
  · cases e
    exact .inr ⟨g, c, cur, rfl, hb, hh, by omega, hm, hs, by rw [← ht, List.take_take, Nat.min_eq_left hle]⟩
theorem clo2 (s t : ByteArray) (a : Int) (gm : Nat) (w : World) (hm : w.cell? ⟨gm, 0, none⟩ = some (.string s)) (v : Bool) (hv : (t.toList == s.toList) = v) :
    Calls Try.prog 45 #[.agg #[.string t, .int .i64 a], .pointer (some ⟨gm, 0, none⟩)] w fun e w' => e = .returned (.bool v) ∧ Below w.heap.size w w' := by
  have B0 : Below w.heap.size w (w.alloc (Obj.cells #[Value.string t, Value.int .i64 a] 55)) := (Below.refl _ _).alloc (Nat.le_refl _) _
  have f0 := kp B0 (lt_of_cell hm) hm
  go_enter Try.func45, Try.ntmps45
  go_wp2
  go_ret
  exact ⟨rfl, B0⟩
/-- The index of the first monomial of a name. -/
def IXF (es : List Mo) (s : ByteArray) (w : World) (e : Ending) (w' : World) : Prop :=
  Below w.heap.size w w' ∧ ∃ j : Nat, j < es.length ∧ e = .returned (.int .i64 (j : Int)) ∧ (es.getD j mo0).1 = s ∧ ∀ i, i < j → (es.getD i mo0).1 ≠ s
set_option maxRecDepth 100000 in
set_option maxHeartbeats 8000000 in
theorem idx2 (q : Option Addr) (es : List Mo) (d : Nat) (s : ByteArray) (gm : Nat) (w : World) (hn : es.length ≤ 1000) (RA : Hid (SlM w q es)) (hm : w.cell? ⟨gm, 0, none⟩ = some (.string s)) (hin : s ∈ es.map (·.1)) :
    Calls Try.prog 64 #[.slice q es.length d, .func (.func 45) #[] #[.pointer (some ⟨gm, 0, none⟩)]] w (IXF es s w) := by
  have C := Lib.hid fun (t : ByteArray) (a : Int) (u : World) h v hv => clo2 s t a gm u h v hv
  have HIN := Lib.hid hin
  clear hin
  go_enter Try.func64, Try.ntmps64
  go_wp2
  go_loopw [8] (fun i wr => ∃ j : Nat, i = .int .i64 (j : Int) ∧ j ≤ es.length ∧ Below w.heap.size w wr ∧ Hid (∀ i, i < j → (es.getD i mo0).1 ≠ s)) (fun i _ => es.length - (intOf i).toNat)
  case atStart => exact ⟨0, rfl, by omega, Below.refl _ _, Lib.hid fun i hi => absurd hi (by omega)⟩
  case round =>
    obtain ⟨j, rfl, hj, hB, HN⟩ := hrel
    have j0 : (0 : Int) ≤ j := by omega
    by_cases hlt : j < es.length
    · obtain ⟨b, o, rfl, c0, c1⟩ := SlM.keep hB RA.out j hlt
      obtain ⟨⟨t, a⟩, hx⟩ : ∃ x, es.getD j mo0 = x := ⟨_, rfl⟩
      have HX := Lib.hid hx
      rw [hx] at c0 c1
      simp only at c0 c1
      clear hx
      have j1 : (j : Int) < es.length := by omega
      have hm2 := kp hB (lt_of_cell hm) hm
      obtain ⟨v, hv⟩ : ∃ v, (t.toList == s.toList) = v := ⟨_, rfl⟩
      have C2 := Lib.hid (C.out t a wr hm2 v hv)
      have HV := Lib.hid hv
      clear hv C
      cases v
      · go_wp2_with fail
        refine C2.out.mono ?_
        rintro e w2 ⟨rfl, hb⟩
        have hB2 := hB.trans (hb.mono hB.size)
        have HN2 : Hid (∀ i, i < j + 1 → (es.getD i mo0).1 ≠ s) := Lib.hid fun i hi => by
          by_cases hij : i = j
          · subst hij
            rw [HX.out]
            intro e
            have := HV.out
            rw [same_iff] at this
            exact absurd e (of_decide_eq_false this)
          · exact HN.out i (by omega)
        go_wp2
        go_roundw
        case rel => exact ⟨j + 1, by go_num, by omega, hB2, HN2⟩
        case measure => simp [intOf]; omega
      · go_wp2_with fail
        refine C2.out.mono ?_
        rintro e w2 ⟨rfl, hb⟩
        have hB2 := hB.trans (hb.mono hB.size)
        have hts : (es.getD j mo0).1 = s := by
          rw [HX.out]
          have := HV.out
          rw [same_iff] at this
          exact of_decide_eq_true this
        have HE := Lib.hid (show ∃ j' : Nat, j' < es.length ∧ (Ending.returned (.int .i64 (j : Int))) = .returned (.int .i64 (j' : Int)) ∧ (es.getD j' mo0).1 = s ∧ ∀ i, i < j' → (es.getD i mo0).1 ≠ s from ⟨j, hlt, rfl, hts, HN.out⟩)
        clear hts
        go_wp2
        go_ret
        exact ⟨hB2, HE.out⟩
    · exact absurd HIN.out (not_mem_of (by omega) HN.out)
def rmN (s : ByteArray) (xs : List Mo) : List Mo := xs.filter fun m => !(m.1.toList == s.toList)
theorem rmN_snoc (s : ByteArray) (xs : List Mo) (m : Mo) : rmN s (xs ++ [m]) = rmN s xs ++ (if (m.1.toList == s.toList) = true then [] else [m]) := by
  unfold rmN
  rw [List.filter_append]
  cases h : (m.1.toList == s.toList) <;> simp [h]
theorem rmN_none {s : ByteArray} {xs : List Mo} (h : ∀ m ∈ xs, m.1 ≠ s) : rmN s xs = xs := by
  unfold rmN
  rw [List.filter_eq_self]
  intro m hm
  rw [same_iff, decide_eq_false (h m hm)]
  rfl
theorem rmN_len (s : ByteArray) (xs : List Mo) : (rmN s xs).length ≤ xs.length := List.length_filter_le _ _
theorem take_drop_get {l m : List Value} {a b j : Nat} (h : l.drop a = m.drop a) (hj : a ≤ j) : l[j]? = m[j]? := by
  have := congrArg (fun z => z[j - a]?) h
  simp only [List.getElem?_drop] at this
  rwa [show a + (j - a) = j by omega] at this
theorem drop_mono {l m : List Value} {a b : Nat} (h : l.drop a = m.drop a) (hb : a ≤ b) : l.drop b = m.drop b := by
  have := congrArg (List.drop (b - a)) h
  rw [List.drop_drop, List.drop_drop, show a + (b - a) = b by omega] at this
  exact this
theorem set2_drop {l m : List Value} {i a : Nat} {x y : Value} (h : l.drop a = m) (hi : 2 * i + 2 ≤ a) : ((l.set (i * 2) x).set (i * 2 + 1) y).drop a = m := by
  rw [← h]
  apply List.ext_getElem?
  intro t
  rw [List.getElem?_drop, List.getElem?_drop, List.getElem?_set_ne (by omega), List.getElem?_set_ne (by omega)]
def DFW (base g c : Nat) (F : List Mo) (w : World) (e : Ending) (w' : World) : Prop := e = .returned (.slice (some ⟨g, 0, none⟩) F.length c) ∧ w'.ownsRow base 55 2 (.slice (some ⟨g, 0, none⟩) F.length c) F.length (moCs F) ∧ w.grownBy w' (some g)
theorem zeroMo (w : World) : (zeroValue 55).run Try.prog w = .ok (.agg #[.string ⟨#[]⟩, .int .i64 0]) w := by kernel_rfl
set_option maxRecDepth 100000 in
set_option maxHeartbeats 16000000 in
theorem delf1 (base g : Nat) (xs : List Mo) (c : Nat) (s : ByteArray) (gm : Nat) (w : World) (hn : xs.length ≤ 1000) (hO : w.ownsRow base 55 2 (.slice (some ⟨g, 0, none⟩) xs.length c) xs.length (moCs xs)) (hm : w.cell? ⟨gm, 0, none⟩ = some (.string s)) (hgm : gm ≠ g) (hin : s ∈ xs.map (·.1)) :
    Calls Try.prog 44 #[.slice (some ⟨g, 0, none⟩) xs.length c, .func (.func 45) #[] #[.pointer (some ⟨gm, 0, none⟩)]] w (DFW base g c (rmN s xs) w) := by
  have CI : Hid (Calls Try.prog 64 #[.slice (some ⟨g, 0, none⟩) xs.length c, .func (.func 45) #[] #[.pointer (some ⟨gm, 0, none⟩)]] w (IXF xs s w)) := Lib.hid (by
    obtain ⟨p, d, e, hs⟩ := own_sl hO
    cases e
    exact idx2 _ xs c s gm w hn (Lib.hid hs) hm hin)
  have C := Lib.hid fun (t : ByteArray) (a : Int) (u : World) h v hv => clo2 s t a gm u h v hv
  have hcap : xs.length ≤ c := own_cap hO
  have HO := Lib.hid hO
  have HG0 := Lib.hid (show w.grownBy w (some g) from ⟨rfl, rfl, rfl, Nat.le_refl _, fun _ _ _ => rfl⟩)
  have hgl : g < w.heap.size := (hO.lt g rfl).2
  have hcm : c ≤ maxLen := by
    rcases hO.2 with ⟨e, _⟩ | ⟨g', cap, cur, e, _, _, _, hm, _⟩
    · cases e
    · cases e; exact hm
  unfold maxLen at hcm
  obtain ⟨n, hxn⟩ : ∃ n, xs.length = n := ⟨_, rfl⟩
  rw [hxn] at hn hcap
  have HN := Lib.hid hxn
  rw [hxn] at CI HO ⊢
  clear hxn hO hin
  go_enter Try.func44, Try.ntmps44
  go_wp2_with fail
  refine CI.out.mono ?_
  rintro e w1 ⟨hb, i0, hi0, rfl, hnm, hbef⟩
  rw [HN.out] at hi0
  have O1 := Lib.hid (own_below HO.out hb)
  have G1 := Lib.hid (grown_below HG0.out hb)
  have HF0 : Hid (rmN s (xs.take (i0 + 1)) = xs.take i0) := Lib.hid (by
    rw [take_step (by rw [HN.out]; exact hi0), rmN_snoc, if_pos (by rw [same_iff, decide_eq_true_eq]; exact hnm), List.append_nil]
    exact rmN_none fun m hm' => by
      obtain ⟨t, ht, rfl⟩ := List.getElem_of_mem hm'
      rw [List.getElem_take]
      rw [List.length_take] at ht
      have := hbef t (by omega)
      rwa [show xs.getD t mo0 = xs[t]'(by omega) by unfold List.getD; rw [List.getElem?_eq_getElem (by omega)]; rfl] at this)
  clear hb hnm hbef CI HG0 HO
  have z0 : (0 : Int) ≤ i0 := by omega
  have z1 : ((i0 : Int) == -1) = false := beq_false_of_ne (by omega)
  go_wp2_with fail
  go_loopw [5, 6] (fun x y wr => ∃ (i j : Nat) (l : List Value), x = .int .i64 (i : Int) ∧ y = .int .i64 (j : Int) ∧ i < j ∧ j ≤ n ∧ Hid (w.grownBy wr (some g)) ∧ Hid (wr.ownsRow base 55 2 (.slice (some ⟨g, 0, none⟩) n c) n l) ∧ Hid (l.take (2 * i) = moCs (rmN s (xs.take j))) ∧ Hid (i = (rmN s (xs.take j)).length) ∧ Hid (l.drop (2 * j) = (moCs xs).drop (2 * j))) (fun _ y _ => n - (intOf y).toNat)
  case atStart =>
    refine ⟨i0, i0 + 1, moCs xs, rfl, by go_num, by omega, by omega, G1, O1, Lib.hid ?_, Lib.hid ?_, Lib.hid rfl⟩
    · rw [HF0.out]
      rw [show moCs xs = moCs (xs.take i0) ++ moCs (xs.drop i0) by unfold moCs; rw [← List.flatMap_append, List.take_append_drop]]
      rw [List.take_left' (by rw [moCs_len, List.length_take, HN.out]; omega)]
    · rw [HF0.out, List.length_take, HN.out]; omega
  case round =>
    obtain ⟨i, j, l, rfl, rfl, hij, hj, hG, hO, hT, hI, hD⟩ := hrel
    have i1 : (0 : Int) ≤ i := by omega
    have j0 : (0 : Int) ≤ j := by omega
    clear G1 O1 HF0 z0 z1
    by_cases hlt : j < n
    · have hltx : j < xs.length := by rw [HN.out]; exact hlt
      have htk := Lib.hid (take_step hltx)
      obtain ⟨d0, d1⟩ := moCs_get xs j hltx
      rw [← take_drop_get (b := 0) hD.out (by omega)] at d0 d1
      have c0 := hO.out.cellAt (j * 2) (by omega)
      have c1 := hO.out.cellAt (j * 2 + 1) (by omega)
      rw [d0] at c0
      rw [d1] at c1
      obtain ⟨⟨t, a⟩, hx⟩ : ∃ x, xs.getD j mo0 = x := ⟨_, rfl⟩
      have htk := Lib.hid (by have h := htk.out; rw [hx] at h; exact h)
      rw [hx] at c0 c1
      simp only at c0 c1
      clear hx hltx d0 d1
      have j1 : (j : Int) < n := by omega
      have hm2 : wr.cell? ⟨gm, 0, none⟩ = some (.string s) := (World.cell?_of_block (a := ⟨gm, 0, none⟩) (hG.out.block gm (lt_of_cell hm) (by simpa using hgm))).trans hm
      have BM := (Below.refl wr.heap.size wr).alloc (Nat.le_refl _) (Obj.cells #[Value.string t, Value.int .i64 a] 55)
      have m0 : (wr.alloc (Obj.cells #[Value.string t, Value.int .i64 a] 55)).cell? ⟨wr.heap.size, 0, none⟩ = some (.string t) := by go_cell
      have m1 : (wr.alloc (Obj.cells #[Value.string t, Value.int .i64 a] 55)).cell? ⟨wr.heap.size, 1, none⟩ = some (.int .i64 a) := by go_cell
      have m2 := kp BM (lt_of_cell hm2) hm2
      have OM := Lib.hid (own_below hO.out BM)
      have GM := Lib.hid (grown_below hG.out BM)
      have hicap : (i : Int) < n := by omega
      obtain ⟨v, hv⟩ : ∃ v, (t.toList == s.toList) = v := ⟨_, rfl⟩
      have CC := Lib.hid fun u h => C.out t a u h v hv
      have HV := Lib.hid hv
      clear hv hO hG BM hm2
      cases v
      · have HF : Hid (rmN s (xs.take (j + 1)) = rmN s (xs.take j) ++ [(t, a)]) := Lib.hid (by rw [htk.out, rmN_snoc, if_neg (by rw [HV.out]; decide)])
        go_wp2_with fail
        clear c0 c1
        generalize wr.alloc (Obj.cells #[Value.string t, Value.int .i64 a] 55) = wm at *
        generalize wr.heap.size = gq at *
        go_wp2_with fail
        refine (CC.out wm m2).mono ?_
        rintro e w2 ⟨rfl, hb⟩
        replace m0 := kp hb (lt_of_cell m0) m0
        replace m1 := kp hb (lt_of_cell m1) m1
        have O2 := own_below OM.out hb
        have G2 := Lib.hid (grown_below GM.out hb)
        have hll : l.length = n * 2 := O2.1
        have e0 := O2.cellAt (i * 2) (by omega)
        have e1 := O2.cellAt (i * 2 + 1) (by omega)
        have y0 := O2.frozenAt (i * 2)
        have y1 := O2.frozenAt (i * 2 + 1)
        rw [List.getElem?_eq_getElem (by omega)] at e0 e1
        have O3 := Lib.hid ((O2.stored (i * 2) (.string t)).1.stored (i * 2 + 1) (.int .i64 a)).1
        have HT : Hid (((l.set (i * 2) (.string t)).set (i * 2 + 1) (.int .i64 a)).take (2 * (i + 1)) = moCs (rmN s (xs.take (j + 1)))) := Lib.hid (by
          rw [HF.out, moCs_snoc, Nat.mul_comm i 2]
          exact set2_take (by omega) hT.out)
        have HI : Hid (i + 1 = (rmN s (xs.take (j + 1))).length) := Lib.hid (by rw [HF.out, List.length_append, ← hI.out]; rfl)
        have HD : Hid (((l.set (i * 2) (.string t)).set (i * 2 + 1) (.int .i64 a)).drop (2 * (j + 1)) = (moCs xs).drop (2 * (j + 1))) := Lib.hid (set2_drop (drop_mono hD.out (by omega)) (by omega))
        have G3 : Hid (w.grownBy ((w2.setCell ⟨g, i * 2, none⟩ (.string t)).setCell ⟨g, i * 2 + 1, none⟩ (.int .i64 a)) (some g)) := Lib.hid (grown_trans (grown_trans G2.out (grown_set (a := ⟨g, i * 2, none⟩))) (grown_set (a := ⟨g, i * 2 + 1, none⟩)))
        generalize l[i * 2] = x0 at *
        generalize l[i * 2 + 1] = x1 at *
        clear O2 hb OM GM G2 hT hI hD m2
        go_wp2
        go_roundw
        case rel => exact ⟨i + 1, j + 1, _, by go_num, by go_num, by omega, by omega, G3, O3, HT, HI, HD⟩
        case measure => simp [intOf]; omega
      · have HF : Hid (rmN s (xs.take (j + 1)) = rmN s (xs.take j)) := Lib.hid (by rw [htk.out, rmN_snoc, if_pos HV.out, List.append_nil])
        go_wp2_with fail
        clear c0 c1
        generalize wr.alloc (Obj.cells #[Value.string t, Value.int .i64 a] 55) = wm at *
        generalize wr.heap.size = gq at *
        go_wp2_with fail
        refine (CC.out wm m2).mono ?_
        rintro e w2 ⟨rfl, hb⟩
        have O3 := Lib.hid (own_below OM.out hb)
        have G3 := Lib.hid (grown_below GM.out hb)
        clear hb OM GM m2 m0 m1
        have HD : Hid (l.drop (2 * (j + 1)) = (moCs xs).drop (2 * (j + 1))) := Lib.hid (drop_mono hD.out (by omega))
        go_wp2
        go_roundw
        case rel => exact ⟨i, j + 1, l, rfl, by go_num, by omega, by omega, G3, O3, by rw [HF.out]; exact hT, by rw [HF.out]; exact hI, HD⟩
        case measure => simp [intOf]; omega
    · have j1 : ¬ (j : Int) < n := by omega
      obtain rfl : j = n := by omega
      have hT2 := hT.out
      have hI2 := hI.out
      rw [← HN.out, List.take_length] at hT2 hI2
      have hi1 : (i : Int) ≤ j := by omega
      have hi2 : (i : Int) ≤ c := by omega
      have hcl : ∀ ty, (Builtin.clear_ #[22] ty #[.slice (some ⟨g, i * 2, none⟩) (j - i) (c - i)]).run Try.prog wr = .ok (.tuple #[]) (wr.setCells g (i * 2) (Builtin.zeroCells #[Value.string ⟨#[]⟩, Value.int .i64 0] (j - i)).toList) :=
        fun ty => run_clear2 wr 22 55 ty _ Try.underlying22 zeroMo #[Value.string ⟨#[]⟩, Value.int .i64 0] rfl (by intro v hv; simp at hv; rcases hv with rfl | rfl <;> rfl) g (i * 2) (j - i) (c - i) (by omega)
          (by intro t ht; have ht : t < (j - i) * 2 := ht; rw [hO.out.cellAt (i * 2 + t) (by omega), List.getElem?_eq_getElem (by rw [hO.out.1]; omega)]; rfl)
          (by intro t ht; exact hO.out.frozenAt _)
      obtain ⟨l', o1, o2⟩ := own_setCells (Builtin.zeroCells #[Value.string ⟨#[]⟩, Value.int .i64 0] (j - i)).toList (i * 2) wr l hO.out
      have o3 := own_prefix o1 (i := i) (by omega)
      rw [o2, Nat.mul_comm i 2, hT2] at o3
      have G3 := grown_setCells (Builtin.zeroCells #[Value.string ⟨#[]⟩, Value.int .i64 0] (j - i)).toList (i * 2) wr hG.out
      rw [Nat.mul_comm i 2] at G3
      have HX := Lib.hid (show DFW base g c (rmN s xs) w (.returned (.slice (some ⟨g, 0, none⟩) i c)) (wr.setCells g (2 * i) (Builtin.zeroCells #[Value.string ⟨#[]⟩, Value.int .i64 0] (j - i)).toList) from ⟨by rw [← hI2], by rw [← hI2]; exact o3, G3⟩)
      rw [Nat.mul_comm 2 i] at HX
      clear o1 o2 o3 G3 hT2 hI2 hT hI hD hO hG
      go_wp2_with (simp only [hcl])
      go_ret
      exact HX.out
end Go.Proofs.Ythdeaneffnlffaa.Ln
