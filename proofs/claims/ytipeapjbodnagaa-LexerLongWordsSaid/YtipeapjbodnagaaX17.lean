/- The lexer: the tokens of a joined text. -/
import Derived.Test.YtipeapjbodnagaaX10
namespace Go.Proofs.Ytipeapjbodnagaa.Lx
open Go.ChangeShapes Go.WideShapes Go.ChangeAt Go.RowKit
open Go.Proofs.Ytipeapjbodnagaa.Nm
set_option linter.unusedVariables false

theorem takeWhile_app {p : UInt8 → Bool} : ∀ (m r : List UInt8), (∀ c ∈ m, p c = true) → (r = [] ∨ ∃ c r', r = c :: r' ∧ p c = false) → (m ++ r).takeWhile p = m
  | [], r, _, hr => by
    rcases hr with rfl | ⟨c, r', rfl, hc⟩
    · rfl
    · exact List.takeWhile_cons_of_neg (by rw [hc]; decide)
  | c :: m, r, hm, hr => by
    rw [List.cons_append, List.takeWhile_cons_of_pos (hm c List.mem_cons_self), takeWhile_app m r (fun d hd => hm d (List.mem_cons_of_mem _ hd)) hr]
theorem tw_mem {p : UInt8 → Bool} : ∀ (m : List UInt8), ∀ d ∈ m.takeWhile p, p d = true
  | c :: m, d, hd => by
    by_cases hc : p c = true
    · rw [List.takeWhile_cons_of_pos hc] at hd
      rcases List.mem_cons.1 hd with rfl | hd
      · exact hc
      · exact tw_mem m d hd
    · rw [List.takeWhile_cons_of_neg hc] at hd
      cases hd
theorem tw_take {p : UInt8 → Bool} : ∀ (m : List UInt8), m.take (m.takeWhile p).length = m.takeWhile p
  | [] => rfl
  | c :: m => by
    by_cases hc : p c = true
    · rw [List.takeWhile_cons_of_pos hc, List.length_cons, List.take_succ_cons, tw_take m]
    · rw [List.takeWhile_cons_of_neg hc]; rfl
theorem kd_drop (l : List UInt8) (k : Nat) : kd l k = ((kd (l.drop k) 0).1, k + (kd (l.drop k) 0).2) := by
  have b0 : by1 (l.drop k) 0 = by1 l k := by rw [by1_drop, Nat.add_zero]
  have b1 : by1 (l.drop k) 1 = by1 l (k + 1) := by rw [by1_drop]
  have hr : ∀ f, rn f l (k + 1) = k + rn f (l.drop k) 1 := fun f => by unfold rn; rw [List.drop_drop]; omega
  unfold kd
  rw [b0, Nat.zero_add, b1, hr, hr, List.length_drop]
  by_cases c1 : let1 (by1 l k) = true
  · rw [if_pos c1, if_pos c1]
  · rw [if_neg c1, if_neg c1]
    by_cases c2 : dg (by1 l k) = true
    · rw [if_pos c2, if_pos c2]
    · rw [if_neg c2, if_neg c2]
      by_cases c3 : sy (by1 l k) = true
      · rw [if_pos c3, if_pos c3]
        by_cases c4 : k + 1 < l.length ∧ (by1 l k = 60 ∨ by1 l k = 61) ∧ by1 l (k + 1) = 61
        · rw [if_pos c4, if_pos ⟨by omega, c4.2⟩]
        · rw [if_neg c4, if_neg (fun h => c4 ⟨by omega, h.2⟩)]
      · rw [if_neg c3, if_neg c3]
        rfl
/-- What stands behind a token in a joined text. -/
def Tl (r : List UInt8) : Prop := r = [] ∨ ∃ r', r = 32 :: r'
theorem Tl.stop {r : List UInt8} (h : Tl r) {f : Int → Bool} (hf : f 32 = false) : r = [] ∨ ∃ c r', r = c :: r' ∧ f (n8 c) = false := by
  rcases h with h | ⟨r', h⟩
  · exact .inl h
  · exact .inr ⟨32, r', h, hf⟩
theorem run_tok {f : Int → Bool} (hf : f 32 = false) {c : UInt8} {m r : List UInt8} (hr : Tl r) : rn f ((c :: m.takeWhile (fun d => f (n8 d))) ++ r) 1 = (c :: m.takeWhile (fun d => f (n8 d))).length := by
  unfold rn
  rw [List.cons_append, List.drop_succ_cons, List.drop_zero, takeWhile_app _ r (fun d hd => tw_mem (p := fun e => f (n8 e)) m d hd) (hr.stop hf)]
  simp; omega
/-- The text of a token, taken out of its place, is read as the same token. -/
theorem tok_alone {l : List UInt8} {r : List UInt8} (hl : l ≠ []) (h0 : (kd l 0).1 ≠ 0) (hr : Tl r) : kd (l.take (kd l 0).2 ++ r) 0 = kd l 0 := by
  obtain ⟨c, m, rfl⟩ := List.exists_cons_of_ne_nil hl
  have b0 : ∀ z, by1 (c :: z) 0 = n8 c := fun z => rfl
  by_cases c1 : let1 (n8 c) = true
  · have e : kd (c :: m) 0 = (1, rn wd (c :: m) 1) := kd_let (by rw [b0]; exact c1)
    have e2 : rn wd (c :: m) 1 = 1 + (m.takeWhile fun d => wd (n8 d)).length := by unfold rn; rw [List.drop_succ_cons, List.drop_zero]
    have e3 : (c :: m).take (1 + (m.takeWhile fun d => wd (n8 d)).length) = c :: m.takeWhile fun d => wd (n8 d) := by
      rw [Nat.add_comm, List.take_succ_cons, tw_take]
    rw [e]
    simp only
    rw [e2, e3, kd_let (by rw [List.cons_append, b0]; exact c1), run_tok (by decide) hr]
    simp; omega
  · have c1 : let1 (n8 c) = false := by simpa using c1
    by_cases c2 : dg (n8 c) = true
    · have e : kd (c :: m) 0 = (2, rn dg (c :: m) 1) := kd_dig (by rw [b0]; exact c1) (by rw [b0]; exact c2)
      have e2 : rn dg (c :: m) 1 = 1 + (m.takeWhile fun d => dg (n8 d)).length := by unfold rn; rw [List.drop_succ_cons, List.drop_zero]
      have e3 : (c :: m).take (1 + (m.takeWhile fun d => dg (n8 d)).length) = c :: m.takeWhile fun d => dg (n8 d) := by
        rw [Nat.add_comm, List.take_succ_cons, tw_take]
      rw [e]
      simp only
      rw [e2, e3, kd_dig (by rw [List.cons_append, b0]; exact c1) (by rw [List.cons_append, b0]; exact c2), run_tok (by decide) hr]
      simp; omega
    · have c2 : dg (n8 c) = false := by simpa using c2
      by_cases c3 : sy (n8 c) = true
      · by_cases c4 : 0 + 1 < (c :: m).length ∧ (by1 (c :: m) 0 = 60 ∨ by1 (c :: m) 0 = 61) ∧ by1 (c :: m) (0 + 1) = 61
        · have e : kd (c :: m) 0 = (3, 2) := kd_sy2 (by rw [b0]; exact c1) (by rw [b0]; exact c2) (by rw [b0]; exact c3) c4
          obtain ⟨d, m2, rfl⟩ := List.exists_cons_of_ne_nil (l := m) (by rintro rfl; simp at c4)
          rw [e]
          exact kd_sy2 (l := c :: d :: r) (by rw [b0]; exact c1) (by rw [b0]; exact c2) (by rw [b0]; exact c3) ⟨by simp, c4.2.1, c4.2.2⟩
        · have e : kd (c :: m) 0 = (3, 1) := kd_sy1 (by rw [b0]; exact c1) (by rw [b0]; exact c2) (by rw [b0]; exact c3) c4
          rw [e]
          refine kd_sy1 (l := c :: r) (by rw [b0]; exact c1) (by rw [b0]; exact c2) (by rw [b0]; exact c3) ?_
          rintro ⟨g1, _, g3⟩
          rcases hr with rfl | ⟨r', rfl⟩
          · simp at g1
          · exact absurd g3 (by show ¬ (32 : Int) = 61; decide)
      · exact absurd (show (kd (c :: m) 0).1 = 0 by rw [kd_no (by rw [b0]; exact c1) (by rw [b0]; exact c2) (by rw [b0]; simpa using c3)]) h0
theorem kd_first {l : List UInt8} {k : Nat} (h : (kd l k).1 ≠ 0) : sp (by1 l k) = false ∧ by1 l k ≠ 35 := by
  generalize hc : by1 l k = c at *
  by_cases c1 : let1 c = true
  · unfold let1 at c1; unfold sp; simp at c1 ⊢; omega
  · by_cases c2 : dg c = true
    · unfold dg at c2; unfold sp; simp at c2 ⊢; omega
    · by_cases c3 : sy c = true
      · have key : ∀ d ∈ syL, sp d = false ∧ d ≠ 35 := by decide
        exact key c (by unfold sy at c3; simpa using c3)
      · exfalso
        apply h
        rw [kd_no (by rw [hc]; simpa using c1) (by rw [hc]; simpa using c2) (by rw [hc]; simpa using c3)]
/-- A token that is read alike wherever it stands alone. -/
def Gd (t : Tk) : Prop := t.2.2.data.toList ≠ [] ∧ t.1 ≠ 0 ∧ (t.1 = 1 → t.2.2.data.toList.length ≤ 16) ∧ ∀ r, Tl r → kd (t.2.2.data.toList ++ r) 0 = (t.1, t.2.2.data.toList.length)
theorem gd_at {s : ByteArray} {k : Nat} (hk : k < s.size) (h0 : (kd s.data.toList k).1 ≠ 0) (hl : ¬ ((kd s.data.toList k).1 = 1 ∧ k + 16 < (kd s.data.toList k).2)) (p : Int) : Gd ((kd s.data.toList k).1, p, s.extract k (kd s.data.toList k).2) := by
  have hbd := kd_bd (l := s.data.toList) (k := k) (by rw [len_data]; exact hk)
  rw [len_data] at hbd
  have hb := hbd.2.2 h0
  have e := kd_drop s.data.toList k
  have hx : (s.extract k (kd s.data.toList k).2).data.toList = (s.data.toList.drop k).take (kd (s.data.toList.drop k) 0).2 := by
    rw [ext_list]
    congr 1
    have := congrArg Prod.snd e
    simp only at this
    omega
  have hd : s.data.toList.drop k ≠ [] := by
    intro h
    have := congrArg List.length h
    rw [List.length_drop, len_data] at this
    simp at this; omega
  have e1 : (kd (s.data.toList.drop k) 0).1 = (kd s.data.toList k).1 := by rw [e]
  have e2 : k + (kd (s.data.toList.drop k) 0).2 = (kd s.data.toList k).2 := by rw [e]
  have hlen : ((s.data.toList.drop k).take (kd (s.data.toList.drop k) 0).2).length = (kd (s.data.toList.drop k) 0).2 := by
    rw [List.length_take, List.length_drop, len_data]; omega
  refine ⟨?_, h0, ?_, ?_⟩
  · show (s.extract k (kd s.data.toList k).2).data.toList ≠ []
    rw [hx]; intro h
    rw [h] at hlen
    simp at hlen; omega
  · show (kd s.data.toList k).1 = 1 → (s.extract k (kd s.data.toList k).2).data.toList.length ≤ 16
    intro h1
    rw [hx, hlen]
    have : ¬ k + 16 < (kd s.data.toList k).2 := fun h => hl ⟨h1, h⟩
    omega
  · intro r hr
    show kd ((s.extract k (kd s.data.toList k).2).data.toList ++ r) 0 = ((kd s.data.toList k).1, (s.extract k (kd s.data.toList k).2).data.toList.length)
    rw [hx, tok_alone hd (by rw [e1]; exact h0) hr, hlen, ← e1]
theorem tz_good (s : ByteArray) : ∀ (f k : Nat) (acc ts : List Tk) (x y : Int), (∀ t ∈ acc, Gd t) → tz s f k acc = (ts, x, y) → ∀ t ∈ ts, Gd t
  | 0, k, acc, ts, x, y, ha, h => by
    have : acc = ts := congrArg Prod.fst h
    rw [← this]; exact ha
  | f + 1, k, acc, ts, x, y, ha, h => by
    by_cases hlt : k < s.size
    · by_cases h0 : (kd s.data.toList k).1 = 0
      · rw [tz_bad hlt h0] at h
        have : [] = ts := congrArg Prod.fst h
        rw [← this]; intro t ht; cases ht
      · by_cases hlong : (kd s.data.toList k).1 = 1 ∧ k + 16 < (kd s.data.toList k).2
        · rw [tz_long hlt hlong.1 hlong.2] at h
          have : [] = ts := congrArg Prod.fst h
          rw [← this]; intro t ht; cases ht
        · rw [tz_go hlt h0 hlong] at h
          refine tz_good s f _ _ ts x y (fun t ht => ?_) h
          rcases List.mem_append.1 ht with ht | ht
          · exact ha t ht
          · rw [List.mem_singleton.1 ht]; exact gd_at hlt h0 hlong _
    · rw [tz_end (by omega)] at h
      have : acc = ts := congrArg Prod.fst h
      rw [← this]; exact ha
/-- The bytes of tokens, joined. -/
def sf : List Tk → List UInt8
  | [] => []
  | [t] => t.2.2.data.toList
  | t :: u :: r => t.2.2.data.toList ++ 32 :: sf (u :: r)
theorem sf_cons (t : Tk) (r : List Tk) : ∃ z, sf (t :: r) = t.2.2.data.toList ++ z ∧ (r = [] ∧ z = [] ∨ r ≠ [] ∧ z = 32 :: sf r) := by
  cases r with
  | nil => exact ⟨[], by simp [sf], .inl ⟨rfl, rfl⟩⟩
  | cons u r => exact ⟨32 :: sf (u :: r), rfl, .inr ⟨by simp, rfl⟩⟩
theorem jk_sf (ts : List Tk) : ∀ (d i : Nat), i < ts.length → ts.length - i = d + 1 → jk ts ts.length = (jk ts i ++ (if 0 < i then [32] else [])) ++ sf (ts.drop i)
  | 0, i, h, hd => by
    have e : ts.length = i + 1 := by omega
    have e2 : ts.drop i = [ts.getD i tk0] := by
      rw [List.drop_eq_getElem_cons h, List.drop_eq_nil_of_le (by omega), List.getD, List.getElem?_eq_getElem h]; rfl
    rw [e2, e]
    show jk ts i ++ ((if 0 < i then [32] else []) ++ (ts.getD i tk0).2.2.data.toList) = _
    rw [List.append_assoc]; rfl
  | d + 1, i, h, hd => by
    have ih := jk_sf ts d (i + 1) (by omega) (by omega)
    rw [if_pos (by omega)] at ih
    have e2 : ts.drop i = ts.getD i tk0 :: ts.drop (i + 1) := by
      rw [List.drop_eq_getElem_cons h, List.getD, List.getElem?_eq_getElem h]; rfl
    obtain ⟨z, hz, hor⟩ := sf_cons (ts.getD i tk0) (ts.drop (i + 1))
    rw [ih, e2, hz]
    rcases hor with ⟨h1, _⟩ | ⟨_, h2⟩
    · have := congrArg List.length h1
      rw [List.length_drop] at this
      simp at this; omega
    · rw [h2]
      show (jk ts i ++ ((if 0 < i then [32] else []) ++ (ts.getD i tk0).2.2.data.toList)) ++ [32] ++ sf (ts.drop (i + 1)) = _
      simp [List.append_assoc]
theorem jk_all (ts : List Tk) : jk ts ts.length = sf ts := by
  cases ts with
  | nil => rfl
  | cons t r => have := jk_sf (t :: r) r.length 0 (by simp) (by simp); simpa [jk] using this
def kt (t : Tk) : Int × ByteArray := (t.1, t.2.2)
theorem ba_ext {x y : ByteArray} (h : x.data.toList = y.data.toList) : x = y := by
  cases x with
  | mk a => cases y with
    | mk b => simp at h; rw [h]
theorem tz_join (J : ByteArray) : ∀ (r : List Tk) (f pos : Nat) (acc : List Tk), (∀ t ∈ r, Gd t) → J.data.toList.drop pos = sf r → pos ≤ J.size → J.size < pos + f → ∃ ys, tz J f pos acc = (acc ++ ys, 0, 0) ∧ ys.map kt = r.map kt
  | [], f, pos, acc, _, hd, hp, _ => by
    have : J.size ≤ pos := by
      have := congrArg List.length hd
      rw [List.length_drop, len_data] at this
      simp [sf] at this; omega
    exact ⟨[], by rw [tz_end this]; simp, rfl⟩
  | t :: r, f, pos, acc, hg, hd, hp, hf => by
    obtain ⟨f, rfl⟩ : ∃ f', f = f' + 1 := ⟨f - 1, by omega⟩
    obtain ⟨g1, g2, g3, g4⟩ := hg t List.mem_cons_self
    obtain ⟨z, hz, hor⟩ := sf_cons t r
    rw [hz] at hd
    have hTl : Tl z := by
      rcases hor with ⟨_, h⟩ | ⟨_, h⟩
      · exact .inl h
      · exact .inr ⟨_, h⟩
    have hkd : kd J.data.toList pos = (t.1, pos + t.2.2.data.toList.length) := by rw [kd_drop, hd, g4 z hTl]
    have hx0 : 0 < t.2.2.data.toList.length := List.length_pos_iff.2 g1
    have hlen : J.size = pos + (t.2.2.data.toList.length + z.length) := by
      have := congrArg List.length hd
      rw [List.length_drop, len_data, List.length_append] at this
      omega
    have hlt : pos < J.size := by omega
    have e1 : J.extract pos (pos + t.2.2.data.toList.length) = t.2.2 := ba_ext (by
      rw [ext_list, hd, Nat.add_sub_cancel_left, List.take_left])
    rw [tz_go hlt (by rw [hkd]; exact g2) (by rw [hkd]; rintro ⟨h1, h2⟩; have := g3 h1; simp only at h2; omega), hkd]
    simp only
    rw [e1]
    have hd2 : J.data.toList.drop (pos + t.2.2.data.toList.length) = z := by rw [← List.drop_drop, hd, List.drop_left]
    rcases hor with ⟨rfl, rfl⟩ | ⟨hne, rfl⟩
    · have hsk : skp J.data.toList (pos + t.2.2.data.toList.length) = pos + t.2.2.data.toList.length := skp_end (by rw [len_data J]; simp only [List.length_nil] at hlen; omega)
      rw [hsk, tz_end (by simp only [List.length_nil] at hlen; omega)]
      exact ⟨[(t.1, (pos : Int), t.2.2)], by simp, rfl⟩
    · obtain ⟨u, r, rfl⟩ := List.exists_cons_of_ne_nil hne
      simp only [List.length_cons] at hlen
      have hb32 : by1 J.data.toList (pos + t.2.2.data.toList.length) = 32 := by
        have := by1_drop J.data.toList (pos + t.2.2.data.toList.length) 0
        rw [hd2] at this
        rw [Nat.add_zero] at this
        rw [← this]; rfl
      have hd3 : J.data.toList.drop (pos + t.2.2.data.toList.length + 1) = sf (u :: r) := by rw [← List.drop_drop, hd2]; rfl
      have hsk1 : skp J.data.toList (pos + t.2.2.data.toList.length) = skp J.data.toList (pos + t.2.2.data.toList.length + 1) := skp_sp (by rw [len_data J]; omega) (by rw [hb32]; rfl)
      obtain ⟨u1, u2, u3, u4⟩ := hg u (List.mem_cons_of_mem _ List.mem_cons_self)
      obtain ⟨z2, hz2, hor2⟩ := sf_cons u r
      have hTl2 : Tl z2 := by
        rcases hor2 with ⟨_, h⟩ | ⟨_, h⟩
        · exact .inl h
        · exact .inr ⟨_, h⟩
      have hkd2 : kd J.data.toList (pos + t.2.2.data.toList.length + 1) = (u.1, pos + t.2.2.data.toList.length + 1 + u.2.2.data.toList.length) := by rw [kd_drop, hd3, hz2, u4 z2 hTl2]
      obtain ⟨v1, v2⟩ := kd_first (l := J.data.toList) (k := pos + t.2.2.data.toList.length + 1) (by rw [hkd2]; exact u2)
      have hu0 : 0 < u.2.2.data.toList.length := List.length_pos_iff.2 u1
      have hlt2 : pos + t.2.2.data.toList.length + 1 < J.size := by
        have := congrArg List.length hz2
        rw [List.length_append] at this
        omega
      have hsk2 : skp J.data.toList (pos + t.2.2.data.toList.length + 1) = pos + t.2.2.data.toList.length + 1 := skp_no (by rw [len_data J]; exact hlt2) v1 v2
      rw [hsk1, hsk2]
      obtain ⟨ys, h1, h2⟩ := tz_join J (u :: r) f _ (acc ++ [(t.1, (pos : Int), t.2.2)]) (fun q hq => hg q (List.mem_cons_of_mem _ hq)) hd3 (by omega) (by omega)
      exact ⟨(t.1, (pos : Int), t.2.2) :: ys, by rw [h1]; simp, by rw [List.map_cons, List.map_cons, h2]; rfl⟩
end Go.Proofs.Ytipeapjbodnagaa.Lx
