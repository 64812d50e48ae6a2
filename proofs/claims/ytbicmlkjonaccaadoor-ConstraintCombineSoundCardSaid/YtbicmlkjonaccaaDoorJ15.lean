/- Linear forms: a name put into a sorted list. -/
import Derived.Test.YtbicmlkjonaccaaDoorY24

namespace Go.Proofs.YtbicmlkjonaccaaDoor.Ln
open Go.ChangeShapes Go.WideShapes Go.ChangeAt Go.RowKit
open Go.Proofs.YtbicmlkjonaccaaDoor.Nm
set_option linter.unusedVariables false
set_option linter.unusedSimpArgs false
def stC (l : List ByteArray) : List Value := l.map Value.string
theorem stC_len (l : List ByteArray) : (stC l).length = l.length := by unfold stC; rw [List.length_map]
theorem stC_app (l m : List ByteArray) : stC (l ++ m) = stC l ++ stC m := by unfold stC; rw [List.map_append]
theorem stC_get {l : List ByteArray} {i : Nat} (h : i < l.length) : (stC l)[i]? = some (.string (l.getD i ByteArray.empty)) := by
  unfold stC List.getD
  rw [List.getElem?_map, List.getElem?_eq_getElem h]
  rfl
theorem infoS : (Tryd.prog.info? 9).map (fun i => (i.zero, i.size, i.bytes)) = some (some (.string ⟨#[]⟩), 1, 16) := by kernel_rfl
theorem own_st {w : World} {base n : Nat} {v : Value} {l : List ByteArray} (h : w.ownsRow base 9 1 v n (stC l)) (hn : n = l.length) : ∃ p c, v = .slice p n c ∧ SlT w p l := by
  subst hn
  obtain ⟨q, c, rfl⟩ := own_slice h
  refine ⟨q, c, rfl, fun i hi => ?_⟩
  rcases h.2 with ⟨e, hn⟩ | ⟨g, cap, cur, e, _⟩
  · omega
  · injection e with e1 e2 e3
    subst e1
    refine ⟨g, 0, rfl, ?_⟩
    rw [Nat.zero_add, h.cellAt i (by omega), stC_get hi]
theorem swp (A D : List Value) (t s : Value) : ((A ++ t :: s :: D).set (A.length + 1) t).set A.length s = A ++ s :: t :: D := by
  induction A with
  | nil => rfl
  | cons a A ih => simp only [List.cons_append, List.length_cons, List.set_cons_succ, ih]
theorem take1 {L : List ByteArray} {i : Nat} (h : i < L.length) : L.take (i + 1) = L.take i ++ [L.getD i ByteArray.empty] := by
  rw [List.take_succ_eq_append_getElem h]
  unfold List.getD
  rw [List.getElem?_eq_getElem h]
  rfl
theorem drop1 {L : List ByteArray} {i : Nat} (h : i < L.length) : L.drop i = L.getD i ByteArray.empty :: L.drop (i + 1) := by
  rw [List.drop_eq_getElem_cons h]
  unfold List.getD
  rw [List.getElem?_eq_getElem h]
  rfl
theorem swp2 {L : List ByteArray} {i : Nat} {s : ByteArray} (h : i < L.length) : ((stC (L.take (i + 1) ++ s :: L.drop (i + 1))).set (i + 1) (.string (L.getD i ByteArray.empty))).set i (.string s) = stC (L.take i ++ s :: L.drop i) := by
  rw [take1 h, drop1 h, List.append_assoc]
  have hl : (stC (L.take i)).length = i := by rw [stC_len, List.length_take]; omega
  have := swp (stC (L.take i)) (stC (L.drop (i + 1))) (.string (L.getD i ByteArray.empty)) (.string s)
  rw [hl] at this
  rw [stC_app (L.take i) ([L.getD i ByteArray.empty] ++ s :: L.drop (i + 1)), stC_app (L.take i) (s :: L.getD i ByteArray.empty :: L.drop (i + 1))]
  exact this
theorem at_lo {L : List ByteArray} {i : Nat} {s : ByteArray} (h : i < L.length) : (stC (L.take (i + 1) ++ s :: L.drop (i + 1)))[i]? = some (.string (L.getD i ByteArray.empty)) := by
  rw [take1 h, List.append_assoc, stC_app, List.getElem?_append_right (by rw [stC_len, List.length_take]; omega)]
  rw [show i - (stC (L.take i)).length = 0 by rw [stC_len, List.length_take]; omega]
  rfl
theorem at_hi {L : List ByteArray} {i : Nat} {s : ByteArray} (h : i ≤ L.length) : (stC (L.take i ++ s :: L.drop i))[i]? = some (.string s) := by
  rw [stC_app, List.getElem?_append_right (by rw [stC_len, List.length_take]; omega)]
  rw [show i - (stC (L.take i)).length = 0 by rw [stC_len, List.length_take]; omega]
  rfl
theorem ins_len {L : List ByteArray} {i : Nat} {s : ByteArray} : (L.take i ++ s :: L.drop i).length = L.length + 1 := by
  simp only [List.length_append, List.length_cons, List.length_take, List.length_drop]; omega
theorem ins_mem {L : List ByteArray} {i : Nat} {s x : ByteArray} : x ∈ L.take i ++ s :: L.drop i ↔ x ∈ L ∨ x = s := by
  rw [List.mem_append, List.mem_cons]
  constructor
  · rintro (h | h | h)
    · exact .inl (List.mem_of_mem_take h)
    · exact .inr h
    · exact .inl (List.mem_of_mem_drop h)
  · rintro (h | h)
    · rw [← List.take_append_drop i L, List.mem_append] at h
      rcases h with h | h
      · exact .inl h
      · exact .inr (.inr h)
    · exact .inr (.inl h)
theorem ins_srt {L : List ByteArray} {i : Nat} {s : ByteArray} (hi : i ≤ L.length) (hns : s ∉ L) (hd : ∀ x ∈ L.drop i, slt s x) (ht : 0 < i → ¬ slt s (L.getD (i - 1) ByteArray.empty)) (hs : Srt L) : Srt (L.take i ++ s :: L.drop i) := by
  have htake : ∀ x ∈ L.take i, slt x s := by
    intro x hx
    by_cases h0 : i = 0
    · subst h0; simp at hx
    · have hlast := ht (by omega)
      have hle : x = L.getD (i - 1) ByteArray.empty ∨ slt x (L.getD (i - 1) ByteArray.empty) := by
        rw [show i = (i - 1) + 1 by omega, take1 (by omega), List.mem_append, List.mem_singleton] at hx
        rcases hx with hx | hx
        · right
          unfold Srt at hs
          rw [← List.take_append_drop (i - 1) L, List.pairwise_append] at hs
          have hm : L.getD (i - 1) ByteArray.empty ∈ L.drop (i - 1) := by rw [drop1 (by omega)]; simp
          exact hs.2.2 x hx _ hm
        · exact .inl hx
      have hl2 : L.getD (i - 1) ByteArray.empty ∈ L := by
        have : L.getD (i - 1) ByteArray.empty ∈ L.drop (i - 1) := by rw [drop1 (by omega)]; simp
        exact List.mem_of_mem_drop this
      have h3 : slt (L.getD (i - 1) ByteArray.empty) s := by
        rcases slt_tri (L.getD (i - 1) ByteArray.empty) s with h | h | h
        · exact h
        · exact absurd (h ▸ hl2) hns
        · exact absurd h hlast
      rcases hle with h | h
      · rw [h]; exact h3
      · exact slt_trans h h3
  unfold Srt at *
  rw [← List.take_append_drop i L, List.pairwise_append] at hs
  rw [List.pairwise_append, List.pairwise_cons]
  refine ⟨hs.1, ⟨hd, hs.2.1⟩, fun a ha b hb => ?_⟩
  rcases List.mem_cons.1 hb with rfl | hb
  · exact htake a ha
  · exact slt_trans (htake a ha) (hd b hb)
theorem below_set2 {B g i j n : Nat} {w u : World} {x y : Value} (h : Below B w u) (hg : B ≤ g) : Below B w (((u.drewN n).setCell ⟨g, i, none⟩ x).setCell ⟨g, j, none⟩ y) := ((below_drewN h n).setCell (p := ⟨g, i, none⟩) hg x).setCell (p := ⟨g, j, none⟩) hg y
def IW (base : Nat) (L : List ByteArray) (s : ByteArray) (w : World) (e : Ending) (w' : World) : Prop :=
  ∃ v' L', e = .returned v' ∧ w'.ownsRow base 9 1 v' L'.length (stC L') ∧ Below base w w' ∧ (Srt L → Srt L') ∧ (∀ x, x ∈ L' ↔ x ∈ L ∨ x = s) ∧ L'.length ≤ L.length + 1
theorem any_yes {ls : List ByteArray} {s : ByteArray} (h : s ∈ ls) : (ls.any fun k => k.toList == s.toList) = true := by
  rw [List.any_eq_true]
  exact ⟨s, h, by rw [same_iff]; simp⟩
theorem any_no {ls : List ByteArray} {s : ByteArray} (h : s ∉ ls) : (ls.any fun k => k.toList == s.toList) = false := by
  rw [List.any_eq_false]
  intro k hk e
  rw [same_iff, decide_eq_true_eq] at e
  exact h (e ▸ hk)
set_option maxRecDepth 100000 in
set_option maxHeartbeats 16000000 in
theorem insert1 (base : Nat) (v : Value) (L : List ByteArray) (s : ByteArray) (w : World) (hl : L.length ≤ 100000) (hb : base ≤ w.heap.size) (hO : Hid (w.ownsRow base 9 1 v L.length (stC L))) :
    Calls Tryd.prog 119 #[v, .string s] w (IW base L s w) := by
  obtain ⟨p, c, hv, hsl⟩ := own_st hO.out rfl
  have C1 := hasT p L c s w (by unfold maxLen; omega) (Lib.hid hsl)
  obtain ⟨i0, hi, hz0, hz1, hz2⟩ := info_parts infoS
  by_cases hm : s ∈ L
  · rw [any_yes hm] at C1
    replace C1 := Lib.hid C1
    have HM := Lib.hid hm
    subst hv
    clear hm hsl hi hz0 hz1 hz2
    go_enter Tryd.func119, Tryd.ntmps119
    go_wp2_with (go_at_call 113; refine C1.out.mono ?_; rintro e w' ⟨rfl, rfl⟩)
    go_ret
    exact ⟨_, L, rfl, hO.out, Below.refl _ _, id, fun x => ⟨.inl, fun h => h.elim id (fun e => e ▸ HM.out)⟩, by omega⟩
  · rw [any_no hm] at C1
    replace C1 := Lib.hid C1
    have HM := Lib.hid hm
    subst hv
    clear hm hsl
    go_enter Tryd.func119, Tryd.ntmps119
    go_wp2_with (first | (go_at_call 113; refine C1.out.mono ?_; rintro e w' ⟨rfl, rfl⟩) | (at_builtin; refine wpList_append_own _ rfl _ _ 123 rfl base 9 i0 (.string ⟨#[]⟩) 1 16 Tryd.underlying123 hi hz0 hz1 hz2 rfl (by decide) _ _ _ rfl (World.ownsRow.alloc hO.out _) ⟨w.heap.size, 0, none⟩ 1 1 [.string s] rfl rfl ?_ ?_ ?_ ?_ ?_ ?_))
    · intro q' x' hx'
      rcases q' with _ | q'
      · cases hx'; go_cell
      · simp at hx'
    · intro x' hx'
      simp at hx'
      subst hx'
      rfl
    · unfold maxLen; omega
    · omega
    · simp; omega
    intro v' w4 hown' hgrow _
    have B4 : Below base w w4 := ((Below.refl base w).alloc hb _).grown hgrow (by simp; omega) (fun q hq => (hO.out.lt q hq).1)
    have hO4 : Hid (w4.ownsRow base 9 1 v' (L.length + 1) (stC (L.take L.length ++ s :: L.drop L.length))) := Lib.hid (by
      rw [List.take_length, List.drop_length, stC_app]
      exact hown')
    clear hown' hgrow hO hi hz0 hz1 hz2 C1
    rcases hO4.out.2 with ⟨e, hn0⟩ | ⟨g, cap, cur, e, hbg, _⟩
    · exact absurd hn0 (by omega)
    subst e
    go_wp2_with fail
    go_loopw [5] (fun i wr => ∃ j : Nat, i = .int .i64 (j : Int) ∧ j ≤ L.length ∧ Below base w wr ∧ Hid (wr.ownsRow base 9 1 (.slice (some ⟨g, 0, none⟩) (L.length + 1) cap) (L.length + 1) (stC (L.take j ++ s :: L.drop j))) ∧ Hid (∀ x ∈ L.drop j, slt s x)) (fun i _ => (intOf i).toNat)
    case atStart => exact ⟨L.length, rfl, Nat.le_refl _, B4, hO4, Lib.hid (by simp)⟩
    case round =>
      obtain ⟨j, rfl, hj, hB, hOj, hD⟩ := hrel
      by_cases h0 : j = 0
      · subst h0
        have HE : Hid (Srt L → Srt (L.take 0 ++ s :: L.drop 0)) := Lib.hid (ins_srt (by omega) HM.out hD.out (fun h => absurd h (by omega)))
        go_wp2_with fail
        go_quiet (fail)
        go_wp2
        go_ret
        exact ⟨_, L.take 0 ++ s :: L.drop 0, rfl, by rw [ins_len]; exact hOj.out, below_drewN hB _, HE.out, fun x => ins_mem, by rw [ins_len]; omega⟩
      · obtain ⟨i, rfl⟩ : ∃ i, j = i + 1 := ⟨j - 1, by omega⟩
        clear h0
        have hil : i < L.length := by omega
        have d0 := hOj.out.cellAt i (by omega)
        rw [at_lo hil] at d0
        have d1 := hOj.out.cellAt (i + 1) (by omega)
        rw [at_hi (by omega)] at d1
        have z0 := hOj.out.frozenAt i
        have z1 := hOj.out.frozenAt (i + 1)
        have HW := Lib.hid (swp2 (s := s) hil)
        have HD := Lib.hid (drop1 hil)
        have HS := Lib.hid fun h : ¬ slt s (L.getD i ByteArray.empty) => ins_srt (i := i + 1) (by omega) HM.out hD.out (fun _ => by rw [show i + 1 - 1 = i by omega]; exact h)
        have htL : L.getD i ByteArray.empty ∈ L := by
          have : L.getD i ByteArray.empty ∈ L.drop i := by rw [drop1 hil]; simp
          exact List.mem_of_mem_drop this
        obtain ⟨t, ht⟩ : ∃ t, L.getD i ByteArray.empty = t := ⟨_, rfl⟩
        rw [ht] at d0 HW HD HS htL
        clear ht
        have i0 : (0 : Int) ≤ i := by omega
        have i1 : (i : Int) < (L.length : Int) + 1 := by omega
        have i2 : (0 : Int) ≤ (i : Int) + 1 := by omega
        have i3 : (i : Int) + 1 < (L.length : Int) + 1 := by omega
        have w1 : IntKind.i64.wrap (((i + 1 : Nat) : Int) - 1) = (i : Int) := by rw [show ((i + 1 : Nat) : Int) - 1 = (i : Int) by omega]; exact IntWalk.i64_in _ (by omega)
        have w2 : IntKind.i64.wrap ((i : Int) + 1 - 1) = (i : Int) := by rw [show (i : Int) + 1 - 1 = (i : Int) by omega]; exact IntWalk.i64_in _ (by omega)
        have e1 : (0 : Int) < (i : Int) + 1 := by omega
        have e2 : decide ((0 : Int) < (i : Int) + 1) = true := decide_eq_true e1
        by_cases hst : slt s t
        · have L1 : Op.bytesLess t.toList s.toList = false := by rw [slt_less]; exact decide_eq_false (slt_asymm hst)
          have L2 : (t.toList == s.toList) = false := by rw [same_iff]; exact decide_eq_false (fun e => slt_irrefl _ (e ▸ hst))
          clear htL
          have hD2 : Hid (∀ x ∈ L.drop i, slt s x) := Lib.hid (by
            rw [HD.out]
            intro x hx
            rcases List.mem_cons.1 hx with rfl | hx
            · exact hst
            · exact hD.out x hx)
          clear hst HS HD hD
          go_wp2_with fail
          go_quiet (fail)
          have O1 := hOj.out.stored (i + 1) (.string t)
          have O2 := O1.1.stored i (.string s)
          rw [HW.out] at O2
          have hO2 : Hid (((wr.setCell ⟨g, i + 1, none⟩ (.string t)).setCell ⟨g, i, none⟩ (.string s)).ownsRow base 9 1 (.slice (some ⟨g, 0, none⟩) (L.length + 1) cap) (L.length + 1) (stC (L.take i ++ s :: L.drop i))) := Lib.hid O2.1
          have hB2 : Below base w ((wr.setCell ⟨g, i + 1, none⟩ (.string t)).setCell ⟨g, i, none⟩ (.string s)) := (hB.setCell (p := ⟨g, i + 1, none⟩) hbg _).setCell (p := ⟨g, i, none⟩) hbg _
          clear O1 O2 hOj HW
          go_wp2
          go_roundw
          case rel => exact ⟨i, rfl, by omega, below_set2 hB hbg, Lib.hid hO2.out, hD2⟩
          case measure => simp [intOf]
        · have hts : slt t s := by
            rcases slt_tri s t with h | h | h
            · exact absurd h hst
            · exact absurd (h ▸ htL) HM.out
            · exact h
          have L1 : Op.bytesLess t.toList s.toList = true := by rw [slt_less]; exact decide_eq_true hts
          clear hts htL
          have HE := Lib.hid (HS.out hst)
          clear hst HS HD
          go_wp2_with fail
          go_quiet (fail)
          go_wp2
          go_ret
          exact ⟨_, L.take (i + 1) ++ s :: L.drop (i + 1), rfl, by rw [ins_len]; exact hOj.out, below_drewN hB _, HE.out, fun x => ins_mem, by rw [ins_len]; omega⟩
end Go.Proofs.YtbicmlkjonaccaaDoor.Ln


namespace Go.Proofs.YtbicmlkjonaccaaDoor.Ln
open Go.ChangeShapes Go.WideShapes Go.ChangeAt Go.RowKit
open Go.Proofs.YtbicmlkjonaccaaDoor.Nm
set_option linter.unusedVariables false
set_option linter.unusedSimpArgs false
/-- A form in a list: its constant, its row, its monomials, the row's room. -/
abbrev Fm := Int × Option Addr × List Mo × Nat
abbrev fm0 : Fm := (0, none, [], 0)
def SlL (w : World) (p : Option Addr) (fs : List Fm) : Prop := ∀ i, i < fs.length → ∃ b o, p = some ⟨b, o, none⟩ ∧ w.cell? ⟨b, o + i * 2, none⟩ = some (.int .i64 (fs.getD i fm0).1) ∧
  w.cell? ⟨b, o + i * 2 + 1, none⟩ = some (.slice (fs.getD i fm0).2.1 (fs.getD i fm0).2.2.1.length (fs.getD i fm0).2.2.2) ∧ SlM w (fs.getD i fm0).2.1 (fs.getD i fm0).2.2.1
theorem SlL.keep {w w' : World} {p : Option Addr} {fs : List Fm} (hB : Below w.heap.size w w') (h : SlL w p fs) : SlL w' p fs := fun i hi => by
  obtain ⟨b, o, rfl, c0, c1, c2⟩ := h i hi
  have hb := lt_of_cell c0
  exact ⟨b, o, rfl, kp hB hb c0, kp hB hb c1, SlM.keep hB c2⟩
def nms (fs : List Fm) : List ByteArray := fs.flatMap fun f => f.2.2.1.map (·.1)
theorem ftake1 {L : List Fm} {i : Nat} (h : i < L.length) : L.take (i + 1) = L.take i ++ [L.getD i fm0] := by
  rw [List.take_succ_eq_append_getElem h]
  unfold List.getD
  rw [List.getElem?_eq_getElem h]
  rfl
theorem nms_step {fs : List Fm} {i : Nat} (h : i < fs.length) : nms (fs.take (i + 1)) = nms (fs.take i) ++ (fs.getD i fm0).2.2.1.map (·.1) := by
  rw [ftake1 h]
  unfold nms
  rw [List.flatMap_append]
  simp
def NW (fs : List Fm) (w : World) (e : Ending) (w' : World) : Prop :=
  ∃ v L, e = .returned v ∧ w'.ownsRow w.heap.size 9 1 v L.length (stC L) ∧ Srt L ∧ (∀ x, x ∈ L ↔ x ∈ nms fs) ∧ L.length ≤ fs.length * 1000 ∧ Below w.heap.size w w'
set_option maxRecDepth 100000 in
set_option maxHeartbeats 16000000 in
theorem names2 (p : Option Addr) (fs : List Fm) (c : Nat) (w : World) (hn : fs.length ≤ 50) (hx : Hid (∀ i, i < fs.length → (fs.getD i fm0).2.2.1.length ≤ 1000)) (RA : Hid (SlL w p fs)) :
    Calls Tryd.prog 100 #[.slice p fs.length c] w (NW fs w) := by
  have CI := Lib.hid fun (v : Value) (L : List ByteArray) (s : ByteArray) (u : World) h1 h2 h3 => insert1 w.heap.size v L s u h1 h2 h3
  go_enter Tryd.func100, Tryd.ntmps100
  go_wp2
  go_loopw [3, 4] (fun v i wr => ∃ (j : Nat) (L : List ByteArray), i = .int .i64 (j : Int) ∧ j ≤ fs.length ∧ L.length ≤ j * 1000 ∧ Below w.heap.size w wr ∧ Hid (wr.ownsRow w.heap.size 9 1 v L.length (stC L)) ∧ Hid (Srt L) ∧ Hid (∀ x, x ∈ L ↔ x ∈ nms (fs.take j))) (fun _ i _ => fs.length - (intOf i).toNat)
  case atStart => exact ⟨0, [], rfl, by omega, by simp, Below.refl _ _, Lib.hid (World.ownsRow_nil _ _ _ _), Lib.hid List.Pairwise.nil, Lib.hid (by simp [nms])⟩
  case round =>
    obtain ⟨j, L, rfl, hj, hlen, hB, hO, hS, hM⟩ := hrel
    have j0 : (0 : Int) ≤ j := by omega
    by_cases hlt : j < fs.length
    · obtain ⟨b, o, rfl, c0, c1, c2⟩ := SlL.keep hB RA.out j hlt
      have hst := Lib.hid (nms_step hlt)
      have hx1 := hx.out j hlt
      obtain ⟨⟨kk, pp, xs, cc⟩, hf⟩ : ∃ f, fs.getD j fm0 = f := ⟨_, rfl⟩
      rw [hf] at c0 c1 c2 hx1
      replace hst := Lib.hid (by have h := hst.out; rw [hf] at h; exact h)
      simp only at c0 c1 c2 hx1
      have HF := Lib.hid hf
      clear hf c0
      have j1 : (j : Int) < fs.length := by omega
      have RX := Lib.hid c2
      clear c2
      go_wp2_with fail
      clear c1 RX
      go_loopw [3, 5] (fun v i w2 => ∃ (k : Nat) (L : List ByteArray), i = .int .i64 (k : Int) ∧ k ≤ xs.length ∧ L.length ≤ j * 1000 + k ∧ Below w.heap.size w w2 ∧ Hid (w2.ownsRow w.heap.size 9 1 v L.length (stC L)) ∧ Hid (Srt L) ∧ Hid (∀ x, x ∈ L ↔ x ∈ nms (fs.take j) ∨ x ∈ (xs.take k).map (·.1))) (fun _ i _ => xs.length - (intOf i).toNat)
      case atStart => exact ⟨0, L, rfl, by omega, by omega, hB, hO, hS, Lib.hid (fun x => by rw [hM.out x]; simp)⟩
      case round =>
        clear hlen hO hS hM hB
        obtain ⟨k, L2, rfl, hk, hlen, hB, hO, hS, hM⟩ := hrel
        have k0 : (0 : Int) ≤ k := by omega
        obtain ⟨b', o', he, c0, c1, c2⟩ := SlL.keep hB RA.out j hlt
        cases he
        rw [HF.out] at c0 c1 c2
        simp only at c0 c1 c2
        clear c0
        by_cases hlk : k < xs.length
        · obtain ⟨b2, o2, rfl, d0, d1⟩ := c2 k hlk
          have htk := Lib.hid (take_step hlk)
          obtain ⟨⟨s, a⟩, hxx⟩ : ∃ x, xs.getD k mo0 = x := ⟨_, rfl⟩
          rw [hxx] at d0 d1
          replace htk := Lib.hid (by have h := htk.out; rw [hxx] at h; exact h)
          simp only at d0 d1
          clear hxx d1 c2
          have k1 : (k : Int) < xs.length := by omega
          have C2 := Lib.hid (CI.out _ L2 s wr (by omega) hB.size hO)
          go_wp2_with fail
          refine C2.out.mono ?_
          rintro e w3 ⟨v', L', rfl, hO', hB', hS', hM', hl'⟩
          have hM2 : Hid (∀ x, x ∈ L' ↔ x ∈ nms (fs.take j) ∨ x ∈ (xs.take (k + 1)).map (·.1)) := Lib.hid (by
            intro x
            rw [hM' x, hM.out x, htk.out, List.map_append, List.mem_append, List.map_cons, List.map_nil, List.mem_singleton, or_assoc])
          have hS2 := Lib.hid (hS' hS.out)
          have hO2 := Lib.hid hO'
          have hB2 : Below w.heap.size w w3 := hB.trans hB'
          clear hO' hB' hS' hM' hO hS hM
          go_wp2
          go_roundw
          case rel => exact ⟨k + 1, L', by go_num, by omega, by omega, hB2, hO2, hS2, hM2⟩
          case measure => simp [intOf]; omega
        · have k1 : ¬ (k : Int) < xs.length := by omega
          obtain rfl : k = xs.length := by omega
          have hM2 : Hid (∀ x, x ∈ L2 ↔ x ∈ nms (fs.take (j + 1))) := Lib.hid (by
            intro x
            rw [hM.out x, hst.out, List.mem_append, List.take_length])
          go_wp2
          go_roundw
          case rel => exact ⟨j + 1, L2, by go_num, by omega, by omega, hB, hO, hS, hM2⟩
          case measure => simp [intOf]; omega
    · have j1 : ¬ (j : Int) < fs.length := by omega
      obtain rfl : j = fs.length := by omega
      go_wp2
      go_ret
      exact ⟨_, L, rfl, hO.out, hS.out, fun x => by rw [hM.out x, List.take_length], hlen, hB⟩
end Go.Proofs.YtbicmlkjonaccaaDoor.Ln
