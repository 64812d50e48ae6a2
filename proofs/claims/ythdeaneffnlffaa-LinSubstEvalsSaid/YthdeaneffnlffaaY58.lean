/- Linear forms: substitution and values, the mathematics. -/
import Derived.Test.YthdeaneffnlffaaY53
import Derived.Test.YthdeaneffnlffaaY48
namespace Go.Proofs.Ythdeaneffnlffaa.Ln
open Go.ChangeShapes Go.WideShapes Go.ChangeAt Go.RowKit
set_option linter.unusedVariables false
set_option linter.unusedSimpArgs false
open Go.Proofs.Ythdeaneffnlffaa.Nm
theorem srt_list {xs : List Mo} (h : Srt (xs.map (·.1))) : xs = (xs.map (·.1)).map fun s => (s, co xs s) := by
  rw [List.map_map]
  conv => lhs; rw [← List.map_id xs]
  exact List.map_congr_left fun m hm => by
    show m = (m.1, co xs m.1)
    rw [co_in h hm]
theorem eq_of_co {A B : List Mo} (hA : Srt (A.map (·.1))) (hB : Srt (B.map (·.1))) (hm : ∀ s, s ∈ A.map (·.1) ↔ s ∈ B.map (·.1)) (hc : ∀ s, co A s = co B s) : A = B := by
  rw [srt_list hA, srt_list hB, Srt.ext hA hB hm]
  exact List.map_congr_left fun s _ => by rw [hc]
theorem rm_srt {s : ByteArray} {xs : List Mo} (h : Srt (xs.map (·.1))) : Srt ((rmN s xs).map (·.1)) := by
  unfold Srt at *
  exact List.Pairwise.sublist (List.Sublist.map _ List.filter_sublist) h
theorem rm_mem {s t : ByteArray} {xs : List Mo} : t ∈ (rmN s xs).map (·.1) ↔ t ∈ xs.map (·.1) ∧ t ≠ s := by
  unfold rmN
  constructor
  · intro h
    obtain ⟨m, hm, rfl⟩ := List.mem_map.1 h
    rw [List.mem_filter] at hm
    refine ⟨List.mem_map_of_mem hm.1, ?_⟩
    have := hm.2
    rw [same_iff] at this
    simpa using this
  · rintro ⟨h, hne⟩
    obtain ⟨m, hm, rfl⟩ := List.mem_map.1 h
    refine List.mem_map_of_mem (List.mem_filter.2 ⟨hm, ?_⟩)
    rw [same_iff]
    simpa using hne
theorem rm_co {s t : ByteArray} {xs : List Mo} : co (rmN s xs) t = if t = s then 0 else co xs t := by
  induction xs with
  | nil => simp [rmN, co_nil]
  | cons x l ih =>
    unfold rmN at ih ⊢
    rw [List.filter_cons, same_iff]
    by_cases hx : x.1 = s
    · rw [decide_eq_true hx, if_neg (by decide), ih, co_cons]
      by_cases ht : t = s
      · rw [if_pos ht, if_pos ht]
      · rw [if_neg ht, if_neg ht, if_neg (fun e => ht (e.symm.trans hx))]
    · rw [decide_eq_false hx, if_pos (by decide), co_cons, ih, co_cons]
      by_cases hxt : x.1 = t
      · rw [if_pos hxt, if_pos hxt, if_neg (fun e => hx (hxt.trans e))]
      · rw [if_neg hxt, if_neg hxt]
theorem co_zero {s : ByteArray} {xs : List Mo} (h : okL xs = true) (hc : co xs s = 0) : s ∉ xs.map (·.1) := fun hm => by
  obtain ⟨m, hm2, rfl⟩ := List.mem_map.1 hm
  have o := okL_iff.1 h
  rw [co_in o.1 hm2] at hc
  exact (o.2 m hm2).2 hc
theorem rm_none {s : ByteArray} {xs : List Mo} (h : s ∉ xs.map (·.1)) : rmN s xs = xs := rmN_none fun m hm e => h (e ▸ List.mem_map_of_mem hm)
theorem okL_filter {xs : List Mo} (h : okL xs = true) : (xs.filter fun m => m.2 != 0) = xs := by
  rw [List.filter_eq_self]
  intro m hm
  simpa using ((okL_iff.1 h).2 m hm).2
theorem okL_one {s : ByteArray} {a : Int} (h : nmB s = true) (ha : a ≠ 0) : okL [(s, a)] = true := by
  rw [okL_iff]
  refine ⟨?_, fun m hm => ?_⟩
  · unfold Srt; simp
  · rw [List.mem_singleton] at hm; subst hm; exact ⟨h, ha⟩
theorem sclR_near {b k : Int} {ys : List Mo} (h1 : okL ys = true) (hb0 : b ≠ 0) (hb : -1048576 ≤ b ∧ b ≤ 1048576) (hk : -1048576 ≤ k ∧ k ≤ 1048576) (hx : ∀ m ∈ ys, -1048576 ≤ m.2 ∧ m.2 ≤ 1048576) : sclR b k ys = (k * b, ys.map fun m => (m.1, m.2 * b), 0) := by
  have hf : sclF b k ys = true := by
    unfold sclF
    rw [Bool.and_eq_true, List.all_eq_true]
    exact ⟨by have := mul_bd hk hb; exact fit_of (by omega) (by omega), fun m hm => by have := mul_bd (hx m hm) hb; exact fit_of (by omega) (by omega)⟩
  unfold sclR
  rw [if_neg (by rw [h1]; decide), if_neg hb0, if_pos hf, wrap_near (by have := mul_bd hk hb; omega) (by have := mul_bd hk hb; omega)]
  rw [show sclV b ys = ys.map fun m => (m.1, m.2 * b) from ?_]
  unfold sclV
  exact List.map_congr_left fun m hm => by have := mul_bd (hx m hm) hb; rw [wrap_near (by omega) (by omega)]
theorem rm_bd {A : Int} {s : ByteArray} {xs : List Mo} (h : ∀ m ∈ xs, -A ≤ m.2 ∧ m.2 ≤ A) : ∀ m ∈ rmN s xs, -A ≤ m.2 ∧ m.2 ≤ A := fun m hm => h m (List.mem_filter.1 hm).1
theorem rm_ok {s : ByteArray} {xs : List Mo} (h : okL xs = true) : okL (rmN s xs) = true := by
  have o := okL_iff.1 h
  rw [okL_iff]
  exact ⟨rm_srt o.1, fun m hm => o.2 m (List.mem_filter.1 hm).1⟩
/-- A variable put in its own place changes nothing. -/
theorem subR_self {k : Int} {xs : List Mo} {s : ByteArray} (h : okL xs = true) (hs : nmB s = true) (hk : -1048576 ≤ k ∧ k ≤ 1048576) (hx : ∀ m ∈ xs, -1048576 ≤ m.2 ∧ m.2 ≤ 1048576) : subR k xs s 0 [(s, 1)] = (k, xs, 0) := by
  have hb := co_near hx s
  have h1 := okL_one hs (show (1 : Int) ≠ 0 by decide)
  unfold subR
  rw [if_neg (by rw [h, hs, h1]; decide)]
  by_cases h0 : co xs s = 0
  · rw [if_pos h0]
  · rw [if_neg h0, sclR_near h1 h0 hb (by decide) (by intro m hm; rw [List.mem_singleton] at hm; subst hm; show (-1048576 : Int) ≤ 1 ∧ (1 : Int) ≤ 1048576; decide)]
    simp only [if_true, List.map_cons, List.map_nil, Int.zero_mul, Int.one_mul]
    have o := okL_iff.1 h
    rw [adR_in 1048576 (by decide) (by decide) (rm_ok h) (okL_one hs h0) hk (by decide) (rm_bd hx) (by intro m hm; rw [List.mem_singleton] at hm; subst hm; exact hb), Int.add_zero]
    have hsrt1 : Srt ([(s, co xs s)].map (·.1) : List ByteArray) := by unfold Srt; simp
    have he : mg (rmN s xs) [(s, co xs s)] = xs := by
      refine eq_of_co (mg_srt _ _ (rm_srt o.1) hsrt1) o.1 (fun t => ?_) (fun t => ?_)
      · rw [mg_mem, rm_mem]
        simp only [List.map_cons, List.map_nil, List.mem_singleton]
        constructor
        · rintro (h | rfl)
          · exact h.1
          · exact Classical.byContradiction fun hc => h0 (co_out hc)
        · intro ht
          by_cases e : t = s
          · exact .inr e
          · exact .inl ⟨ht, e⟩
      · rw [mg_co t _ _ (rm_srt o.1) hsrt1, rm_co, co_cons, co_nil]
        by_cases e : t = s
        · rw [if_pos e, if_pos e.symm, e]; omega
        · rw [if_neg e, if_neg (fun h => e h.symm)]; omega
    rw [he, okL_filter h]
theorem evS_scale (es ys : List Mo) (b : Int) : evS es (ys.map fun m => (m.1, m.2 * b)) = b * evS es ys := by
  induction ys with
  | nil => simp [evS]
  | cons m l ih => rw [List.map_cons, evS, ih, evS, Int.mul_add, Int.mul_comm m.2 b, Int.mul_assoc]
/-- What a substitution gives where all numbers are near. -/
structure SubN (k : Int) (xs : List Mo) (s : ByteArray) (k' : Int) (ys V : List Mo) : Prop where
  eq : subR k xs s k' ys = (k + co xs s * k', V, 0)
  ok : okL V = true
  bd : ∀ m ∈ V, -2199023255552 ≤ m.2 ∧ m.2 ≤ 2199023255552
  nm : ∀ m ∈ V, m.1 ∈ (rmN s xs).map (·.1) ∨ m.1 ∈ ys.map (·.1)
  ev : ∀ es, evS es V = evS es (rmN s xs) + co xs s * evS es ys
  len : V.length ≤ xs.length + ys.length
theorem subR_near {k k' : Int} {xs ys : List Mo} {s : ByteArray} (h : okL xs = true) (hs : nmB s = true) (h' : okL ys = true) (hk : -1048576 ≤ k ∧ k ≤ 1048576) (hk' : -1048576 ≤ k' ∧ k' ≤ 1048576) (hx : ∀ m ∈ xs, -1048576 ≤ m.2 ∧ m.2 ≤ 1048576) (hy : ∀ m ∈ ys, -1048576 ≤ m.2 ∧ m.2 ≤ 1048576) : ∃ V, SubN k xs s k' ys V := by
  have hb := co_near hx s
  by_cases h0 : co xs s = 0
  · have hr := rm_none (co_zero h h0)
    refine ⟨xs, ?_, h, fun m hm => by have := hx m hm; omega, fun m hm => .inl (by rw [hr]; exact List.mem_map_of_mem hm), fun es => by rw [hr, h0]; omega, by omega⟩
    unfold subR
    rw [if_neg (by rw [h, hs, h']; decide), if_pos h0, h0]
    simp
  · have hkb := mul_bd hk' hb
    have hY : okL (ys.map fun m => (m.1, m.2 * co xs s)) = true := by
      have o := okL_iff.1 h'
      rw [okL_iff]
      refine ⟨by rw [List.map_map]; exact o.1, fun m hm => ?_⟩
      obtain ⟨x, h1, rfl⟩ := List.mem_map.1 hm
      exact ⟨(o.2 x h1).1, Int.mul_ne_zero (o.2 x h1).2 h0⟩
    have hYb : ∀ m ∈ (ys.map fun m => (m.1, m.2 * co xs s)), -1099511627776 ≤ m.2 ∧ m.2 ≤ 1099511627776 := fun m hm => by
      obtain ⟨x, h1, rfl⟩ := List.mem_map.1 hm
      exact mul_bd (hy x h1) hb
    have o1 := okL_iff.1 (rm_ok (s := s) h)
    have o2 := okL_iff.1 hY
    refine ⟨(mg (rmN s xs) (ys.map fun m => (m.1, m.2 * co xs s))).filter fun m => m.2 != 0, ?_, okL_flt (mg_srt _ _ o1.1 o2.1) (mg_nm (fun m hm => (o1.2 m hm).1) (fun m hm => (o2.2 m hm).1)), fun m hm => ?_, fun m hm => ?_, fun es => ?_, ?_⟩
    · unfold subR
      rw [if_neg (by rw [h, hs, h']; decide), if_neg h0, sclR_near h' h0 hb hk' hy]
      simp only [if_true]
      rw [adR_in 1099511627776 (by decide) (by decide) (rm_ok h) hY (by omega) hkb (fun m hm => by have := rm_bd hx m hm; omega) hYb, Int.mul_comm k']
    · have := mg_bd 1099511627776 1099511627776 (by decide) (by decide) _ _ (fun m hm => by have := rm_bd (s := s) hx m hm; omega) hYb m (List.mem_filter.1 hm).1
      omega
    · rcases (mg_mem m.1 _ _).1 (List.mem_map_of_mem (List.mem_filter.1 hm).1) with h1 | h1
      · exact .inl h1
      · rw [List.map_map] at h1; exact .inr h1
    · rw [evS_flt, evS_mg, evS_scale]
    · refine Nat.le_trans (List.length_filter_le _ _) (Nat.le_trans (mg_len _ _) ?_)
      have := rmN_len s xs
      rw [List.length_map]
      omega
theorem evS_bind {s : ByteArray} {v : Int} {es : List Mo} : ∀ {xs : List Mo}, Srt (xs.map (·.1)) → evS ((s, v) :: es) xs = evS es (rmN s xs) + co xs s * v
  | [], _ => by simp [evS, rmN, co_nil]
  | x :: l, h => by
    have ih := evS_bind (s := s) (v := v) (es := es) (srt_tail h)
    have hn := srt_out h
    rw [evS, ih, co_cons, co_cons]
    unfold rmN
    rw [List.filter_cons, same_iff]
    by_cases hx : x.1 = s
    · rw [if_pos hx.symm, if_pos hx, decide_eq_true hx, if_neg (by decide)]
      rw [show co l s = 0 from co_out (hx ▸ hn)]
      simp only
      omega
    · rw [if_neg (fun e => hx e.symm), if_neg hx, decide_eq_false hx, if_pos (by decide), evS]
      omega
theorem EV_ok2 {k : Int} {xs es : List Mo} {x : Int} (h : EV k xs es x 0) : fit64 x = true := by
  rcases h with ⟨_, _, h⟩ | ⟨_, _, _, h⟩ | ⟨a, b, f, c, _⟩ | ⟨_, _, _, _, h⟩
  · exact absurd h (by decide)
  · exact absurd h (by decide)
  · rw [c]; exact f
  · exact absurd h (by decide)
/-- The value of a substituted form. -/
theorem EV_subst {k k' : Int} {xs ys V es : List Mo} {s : ByteArray} {v a b m : Int} (hV : SubN k xs s k' ys V) (h1 : EV k' ys es v 0) (h2 : EV k xs ((s, v) :: es) a 0) (h3 : EV (k + co xs s * k') V es b m) : m = 0 ∧ b = a := by
  obtain ⟨y1, y2, rfl⟩ := EV_ok h1
  obtain ⟨x1, x2, hx3⟩ := EV_ok h2
  have hf := EV_ok2 h2
  have o := okL_iff.1 x1
  have he : k + co xs s * k' + evS es V = a := by
    rw [hx3, evS_bind o.1, hV.ev, Int.mul_add]
    omega
  have h4 : EV (k + co xs s * k') V es a 0 := .inr (.inr (.inl ⟨hV.ok, fun m hm => by
      rcases hV.nm m hm with h | h
      · have h := rm_mem.1 h
        obtain ⟨x, q1, q2⟩ := List.mem_map.1 h.1
        have := x2 x q1
        rw [q2] at this
        rcases List.mem_cons.1 this with e | e
        · exact absurd e h.2
        · exact e
      · obtain ⟨x, q1, q2⟩ := List.mem_map.1 h; rw [← q2]; exact y2 x q1, by rw [he]; exact hf, he.symm, rfl⟩))
  obtain ⟨r1, r2⟩ := EV_one h3 h4
  exact ⟨r2, r1⟩
end Go.Proofs.Ythdeaneffnlffaa.Ln
