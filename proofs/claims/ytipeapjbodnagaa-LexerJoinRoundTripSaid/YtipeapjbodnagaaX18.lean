/- The lexer: the statement on joined texts. -/
import Derived.Test.YtipeapjbodnagaaX17
namespace Go.Proofs.Ytipeapjbodnagaa.Lx
open Go.ChangeShapes Go.WideShapes Go.ChangeAt Go.RowKit
open Go.Proofs.Ytipeapjbodnagaa.Nm
set_option linter.unusedVariables false

theorem own_len {w : World} {B n : Nat} {v : Value} {xs : List Value} (h : w.ownsRow B 47 3 v n xs) : n ≤ maxLen := by
  rcases h.2 with ⟨_, h⟩ | ⟨g, cap, cur, hv, _, _, h1, h2, _⟩
  · omega
  · omega
theorem sf_len (s : ByteArray) : ∀ (ts : List Tk) (a : Nat), a ≤ s.size → cover s a ts → (sf ts).length ≤ 2 * (s.size - a)
  | [], a, _, _ => by simp [sf]
  | t :: r, a, ha, h => by
    obtain ⟨_, h2, b, h3, h4, h5, h6⟩ := h
    have ih := sf_len s r b h4 h6
    obtain ⟨z, hz, hor⟩ := sf_cons t r
    have hx : t.2.2.data.toList.length = b - skp s.data.toList a := by rw [h5, len_data, ext_size _ _ _ h4]
    rw [hz, List.length_append, hx]
    rcases hor with ⟨_, rfl⟩ | ⟨_, rfl⟩
    · simp only [List.length_nil]; omega
    · simp only [List.length_cons]; omega
theorem tkz_good {s : ByteArray} {ts : List Tk} {x y : Int} (h : tkz s = (ts, x, y)) : ∀ t ∈ ts, Gd t := by
  unfold tkz at h
  split at h
  · have : [] = ts := congrArg Prod.fst h
    rw [← this]; intro t ht; cases ht
  · exact tz_good s _ _ [] ts x y (fun t ht => by cases ht) h
theorem tkz_join {s : ByteArray} {ts : List Tk} (hs : s.size ≤ 5000) (h : tkz s = (ts, 0, 0)) : (jk ts ts.length).length ≤ 10000 ∧ ∃ ys, tkz ⟨(jk ts ts.length).toArray⟩ = (ys, 0, 0) ∧ ys.map kt = ts.map kt := by
  have hg := tkz_good h
  have hc := tkz_cover h
  have hl := sf_len s ts 0 (by omega) hc
  rw [jk_all]
  refine ⟨by omega, ?_⟩
  obtain ⟨J, hJ⟩ : ∃ J : ByteArray, J = ⟨(sf ts).toArray⟩ := ⟨_, rfl⟩
  rw [← hJ]
  have hJl : J.data.toList = sf ts := by rw [hJ]
  have hJs : J.size = (sf ts).length := by rw [← hJl, len_data]
  have h0 : skp J.data.toList 0 = 0 := by
    cases ts with
    | nil => exact skp_end (by rw [hJl]; exact Nat.le_refl _)
    | cons t r =>
      obtain ⟨g1, g2, g3, g4⟩ := hg t List.mem_cons_self
      obtain ⟨z, hz, hor⟩ := sf_cons t r
      have hTl : Tl z := by
        rcases hor with ⟨_, h⟩ | ⟨_, h⟩
        · exact .inl h
        · exact .inr ⟨_, h⟩
      have hk : kd J.data.toList 0 = (t.1, t.2.2.data.toList.length) := by rw [hJl, hz]; exact g4 z hTl
      obtain ⟨v1, v2⟩ := kd_first (l := J.data.toList) (k := 0) (by rw [hk]; exact g2)
      have : 0 < t.2.2.data.toList.length := List.length_pos_iff.2 g1
      exact skp_no (by rw [hJl, hz, List.length_append]; omega) v1 v2
  obtain ⟨ys, h1, h2⟩ := tz_join J ts (J.size + 1) 0 [] hg (by rw [List.drop_zero, hJl]) (by omega) (by omega)
  refine ⟨ys, ?_, h2⟩
  unfold tkz
  rw [if_neg (by omega), h0, h1]
  rfl
theorem kt_at {xs ys : List Tk} (h : ys.map kt = xs.map kt) : ys.length = xs.length ∧ ∀ i, i < xs.length → (xs.getD i tk0).1 = (ys.getD i tk0).1 ∧ (xs.getD i tk0).2.2 = (ys.getD i tk0).2.2 := by
  have hl : ys.length = xs.length := by have := congrArg List.length h; simpa using this
  refine ⟨hl, fun i hi => ?_⟩
  have h1 := congrArg (fun l => l[i]?) h
  simp only [List.getElem?_map] at h1
  rw [List.getElem?_eq_getElem hi, List.getElem?_eq_getElem (by omega)] at h1
  simp only [Option.map_some, Option.some.injEq] at h1
  rw [List.getD, List.getD, List.getElem?_eq_getElem hi, List.getElem?_eq_getElem (by omega)]
  exact ⟨(congrArg Prod.fst h1).symm, (congrArg Prod.snd h1).symm⟩
set_option maxRecDepth 100000 in
set_option maxHeartbeats 8000000 in
theorem law_round (s : ByteArray) (w : World) (hs : s.size ≤ maxLen) : Calls Try.prog 8 #[.string s] w fun e w' => e = .returned (.bool true) ∧ Below w.heap.size w w' := by
  have EX := Lib.hid exams
  by_cases h5 : 5000 < s.size
  · have l1 : decide ((5000 : Int) < s.size) = true := decide_eq_true (by omega)
    have l2 : decide (5000 < s.size) = true := decide_eq_true h5
    go_enter Try.func8, Try.ntmps8
    go_wp2_with (go_at_call 30; refine (EX.out _).mono ?_; rintro e w1 ⟨rfl, hb1⟩)
    go_ret
    exact ⟨rfl, hb1⟩
  have l1 : decide ((5000 : Int) < s.size) = false := decide_eq_false (by omega)
  have l2 : decide (5000 < s.size) = false := decide_eq_false h5
  have CT := Lib.hid (tokenize s w hs)
  have TE := tkz_err s
  have TJ := fun ts => tkz_join (s := s) (ts := ts) (by omega)
  obtain ⟨V, hV⟩ : ∃ V, tkz s = V := ⟨_, rfl⟩
  rw [hV] at CT TE TJ
  obtain ⟨ts, x, y⟩ := V
  clear hV
  by_cases hy : y = 0
  · subst hy
    have hx : x = 0 := by rcases TE with h | h; · exact h.2
                          · exact absurd rfl h.1
    subst hx
    obtain ⟨hjl, ys, hys, hkt⟩ := TJ ts rfl
    clear TE TJ
    go_enter Try.func8, Try.ntmps8
    go_wp2_with fail
    refine CT.out.mono ?_
    rintro e w1 ⟨v, rfl, hown, hb1⟩
    obtain ⟨p, c, rfl, hS⟩ := tw_sl hown
    have hn := own_len hown
    simp only at hn hS
    simp only
    have HS := Lib.hid hS
    have CJ := Lib.hid (join p ts c w1 hn (by omega) HS)
    obtain ⟨J, hJ⟩ : ∃ J : ByteArray, J = ⟨(jk ts ts.length).toArray⟩ := ⟨_, rfl⟩
    have hJs : J.size ≤ maxLen := by
      rw [hJ]
      have : (⟨(jk ts ts.length).toArray⟩ : ByteArray).size = (jk ts ts.length).length := rfl
      rw [this]; unfold maxLen; omega
    rw [← hJ] at CJ hys
    have CT2 := Lib.hid fun w => (by have h := tokenize J w hJs; rw [hys] at h; exact h)
    obtain ⟨hyl, hye⟩ := kt_at hkt
    have HYE := Lib.hid hye
    have HYL := Lib.hid hyl
    clear hown hS CT hJ hys hkt hyl hye hjl hJs
    go_wp2_with fail
    refine CJ.out.mono ?_
    rintro e w2 ⟨rfl, hb2⟩
    have HS2 := Lib.hid (HS.out.keep hb2)
    have K2 := hb1.trans (hb2.mono hb1.size)
    clear hb1 hb2 CJ HS
    go_wp2_with fail
    refine (CT2.out _).mono ?_
    rintro e w3 ⟨v2, rfl, hown2, hb3⟩
    obtain ⟨p2, c2, rfl, hS2⟩ := tw_sl hown2
    simp only at hS2
    simp only
    have T1 := Lib.hid (HS2.out.keep hb3)
    have T2 := Lib.hid hS2
    have K3 := K2.trans (hb3.mono K2.size)
    have CSM := Lib.hid (sameT p p2 ts ys c c2 false w3 hn HYL.out T1 T2 (Lib.hid fun i hi => ⟨(HYE.out i hi).1, (HYE.out i hi).2, fun h => by cases h⟩))
    clear hown2 hS2 hb3 HS2 T1 T2 CT2
    go_wp2_with fail
    refine CSM.out.mono ?_
    rintro e w4 ⟨rfl, hb4⟩
    have K4 := K3.trans (hb4.mono K3.size)
    clear CSM hb4
    go_wp2_with fail
    refine (EX.out _).mono ?_
    rintro e w5 ⟨rfl, hb5⟩
    go_wp2
    go_ret
    exact ⟨rfl, K4.trans (hb5.mono K4.size)⟩
  · rcases TE with h | ⟨h, hts⟩
    · exact absurd h.1 hy
    · simp only at hts
      subst hts
      have e1 : (y == 0) = false := beq_false_of_ne hy
      have e2 : (y != 0) = true := bne_iff_ne.2 hy
      clear h hy TJ
      go_enter Try.func8, Try.ntmps8
      go_wp2_with fail
      refine CT.out.mono ?_
      rintro e w1 ⟨v, rfl, hown, hb1⟩
      obtain ⟨p, c, rfl, hS⟩ := tw_sl hown
      simp only [List.length_nil]
      clear hown hS CT
      go_wp2_with fail
      refine (EX.out _).mono ?_
      rintro e w2 ⟨rfl, hb2⟩
      go_wp2
      go_ret
      exact ⟨rfl, hb1.trans (hb2.mono hb1.size)⟩
end Go.Proofs.Ytipeapjbodnagaa.Lx
